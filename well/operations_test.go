package well_test

import (
	"math"
	"math/rand"
	"slices"
	"testing"

	"saltdome/api"
	"saltdome/well"
)

// P4.3: the examples of the chapter.
func TestExampleDo(t *testing.T) {
	tested := example()
	tested.Parts[1].Tested = 200
	for name, x := range map[string]struct {
		op     api.WellOp
		passes bool
		want   api.Well
		cost   int
		e      api.Errno
	}{
		"open 2":                   {op(api.WellOpen, 2), true, api.Well{}, 0, api.ErrRule},
		"test 0":                   {op(api.WellTest, 0), true, api.Well{}, 0, api.ErrState},
		"test 1, which passes":     {op(api.WellTest, 1), true, tested, 1, api.OK},
		"change 2, which is bound": {op(api.WellChange, 2), true, api.Well{}, 0, api.ErrRule},
	} {
		if w, cost, e := well.Do(example(), 200, x.op, x.passes); e != x.e || cost != x.cost || !same(w, x.want) {
			t.Error(name, w, cost, e)
		}
	}
}

// P4.3: what each operation does to a part of each kind, where no barriers are needed.
func TestWhatOperationsDo(t *testing.T) {
	shut := costing(3, 8, part(0, 1))
	done := func(change func(*api.WellPart)) func(api.WellPart) api.WellPart {
		return func(p api.WellPart) api.WellPart {
			change(&p)
			return p
		}
	}
	opens := done(func(p *api.WellPart) { p.Open = true })
	closes := done(func(p *api.WellPart) { p.Open = false })
	passes := done(func(p *api.WellPart) { p.Tested = today })
	fails := done(func(p *api.WellPart) { p.Bad = true })
	changes := done(func(p *api.WellPart) { p.Tested, p.Bad = today, false })
	for name, x := range map[string]struct {
		p      api.WellPart
		kind   api.WellKind
		passes bool
		does   func(api.WellPart) api.WellPart
		cost   int
		e      api.Errno
	}{
		"open a good valve":             {shut, api.WellOpen, false, opens, 1, api.OK},
		"open an old valve":             {aged(shut), api.WellOpen, true, opens, 1, api.OK},
		"open a bad valve":              {broken(shut), api.WellOpen, false, opens, 1, api.OK},
		"open an open valve":            {opened(shut), api.WellOpen, false, nil, 0, api.ErrState},
		"open a wall":                   {wall(shut), api.WellOpen, false, nil, 0, api.ErrState},
		"close an open valve":           {opened(shut), api.WellClose, false, closes, 1, api.OK},
		"close an old valve":            {opened(aged(shut)), api.WellClose, true, closes, 1, api.OK},
		"close a bad valve":             {opened(broken(shut)), api.WellClose, false, closes, 1, api.OK},
		"close a shut valve":            {shut, api.WellClose, false, nil, 0, api.ErrState},
		"close a wall":                  {wall(shut), api.WellClose, false, nil, 0, api.ErrState},
		"test an old valve, passes":     {aged(shut), api.WellTest, true, passes, 3, api.OK},
		"test an old valve, fails":      {aged(shut), api.WellTest, false, fails, 3, api.OK},
		"test an old wall, passes":      {aged(wall(shut)), api.WellTest, true, passes, 3, api.OK},
		"test an old wall, fails":       {aged(wall(shut)), api.WellTest, false, fails, 3, api.OK},
		"test an open old valve":        {opened(aged(shut)), api.WellTest, true, nil, 0, api.ErrState},
		"test a good valve":             {shut, api.WellTest, true, nil, 0, api.ErrState},
		"test a bad valve":              {broken(shut), api.WellTest, true, nil, 0, api.ErrState},
		"test a bad valve of old tests": {broken(aged(shut)), api.WellTest, true, nil, 0, api.ErrState},
		"change a good valve":           {shut, api.WellChange, false, changes, 8, api.OK},
		"change an old valve":           {aged(shut), api.WellChange, false, changes, 8, api.OK},
		"change a bad valve":            {broken(aged(shut)), api.WellChange, false, changes, 8, api.OK},
		"change a wall":                 {broken(wall(shut)), api.WellChange, true, changes, 8, api.OK},
		"change an open valve":          {opened(shut), api.WellChange, true, nil, 0, api.ErrState},
		"change an open bad valve":      {opened(broken(shut)), api.WellChange, true, nil, 0, api.ErrState},
	} {
		w := wellOf(3, 0, part(0, 2), x.p)
		want := api.Well{}
		if x.e == api.OK {
			want = wellOf(3, 0, part(0, 2), x.does(x.p))
		}
		if got, cost, e := well.Do(w, today, op(x.kind, 1), x.passes); e != x.e || cost != x.cost || !same(got, want) {
			t.Error(name, got, cost, e)
		}
	}
}

// P4.3: a test and a change of today make a part that is old at once good all the same.
func TestDoOnOtherDays(t *testing.T) {
	p := part(0, 1)
	p.Tested, p.Valid = 0, 0
	for _, kind := range []api.WellKind{api.WellTest, api.WellChange} {
		for _, day := range []int{1, api.WellDays} {
			w, _, e := well.Do(wellOf(2, 1, p), day, op(kind, 0), true)
			if e != api.OK || w.Parts[0].Tested != day {
				t.Error(kind, day, w, e)
			}
			if n, e := well.Number(w, day); e != api.OK || n != 1 {
				t.Error(kind, day, n, e)
			}
		}
	}
	// what was tested on a later day is good, and changed on this one
	p.Tested = 20
	if _, _, e := well.Do(wellOf(2, 0, p), today, op(api.WellTest, 0), true); e != api.ErrState {
		t.Error(e)
	}
	if w, _, e := well.Do(wellOf(2, 0, p), today, op(api.WellChange, 0), true); e != api.OK || w.Parts[0].Tested != today {
		t.Error(w, e)
	}
}

// P4.3, P0.4
func TestSafeOperations(t *testing.T) {
	row := []api.WellPart{part(0, 2), part(2, 3), part(3, 1)}
	for name, x := range map[string]struct {
		w    api.Well
		op   api.WellOp
		want api.Errno
	}{
		"three, two needed":                   {wellOf(4, 2, row...), op(api.WellOpen, 1), api.OK},
		"three, three needed":                 {wellOf(4, 3, row...), op(api.WellOpen, 1), api.ErrRule},
		"three, more needed":                  {wellOf(4, 9, row...), op(api.WellOpen, 1), api.ErrRule},
		"change one of three, two needed":     {wellOf(4, 2, row...), op(api.WellChange, 1), api.OK},
		"change one of three, three needed":   {wellOf(4, 3, row...), op(api.WellChange, 1), api.ErrRule},
		"too few already, none less":          {wellOf(4, 3, part(0, 2), aged(part(2, 3)), part(3, 1)), op(api.WellOpen, 1), api.OK},
		"too few already, one less":           {wellOf(4, 3, part(0, 2), aged(part(2, 3)), part(3, 1)), op(api.WellOpen, 0), api.ErrRule},
		"too few already, change of the bad":  {wellOf(4, 3, part(0, 2), broken(part(2, 3)), part(3, 1)), op(api.WellChange, 1), api.OK},
		"too few already, change of the good": {wellOf(4, 3, part(0, 2), broken(part(2, 3)), part(3, 1)), op(api.WellChange, 0), api.ErrRule},
		"the last one, one needed":            {wellOf(2, 1, part(0, 1)), op(api.WellOpen, 0), api.ErrRule},
		"the last one, none needed":           {wellOf(2, 0, part(0, 1)), op(api.WellOpen, 0), api.OK},
		"change the last one, one needed":     {wellOf(2, 1, part(0, 1)), op(api.WellChange, 0), api.ErrRule},
		"change the last one, none needed":    {wellOf(2, 0, part(0, 1)), op(api.WellChange, 0), api.OK},
		"none at all, five needed":            {wellOf(2, 5, aged(part(0, 1))), op(api.WellOpen, 0), api.OK},
		"side by side, one of two":            {wellOf(2, 1, part(0, 1), part(0, 1)), op(api.WellOpen, 1), api.ErrRule},
		"side by side, one is open":           {wellOf(2, 1, part(0, 1), opened(part(0, 1))), op(api.WellOpen, 0), api.OK},
		"no way to the world":                 {wellOf(3, 2, part(0, 2)), op(api.WellOpen, 0), api.OK},
		"a test that fails":                   {wellOf(3, 2, part(0, 2), aged(part(2, 1))), op(api.WellTest, 1), api.OK},
		"to close":                            {wellOf(3, 2, part(0, 2), opened(part(2, 1))), op(api.WellClose, 1), api.OK},
		"beside the ways":                     {wellOf(3, 1, part(0, 1), part(0, 2)), op(api.WellOpen, 1), api.OK},
		"what cannot be done is not asked":    {wellOf(2, 1, wall(part(0, 1))), op(api.WellOpen, 0), api.ErrState},
	} {
		if _, _, e := well.Do(x.w, today, x.op, false); e != x.want {
			t.Error(name, e)
		}
	}
}

// P4.3, P0.4: whatever is done on any well is what the chapter says; nothing that holds alone is opened where barriers are needed, and there are never fewer than are needed, if there were enough.
func TestDoIsTrue(t *testing.T) {
	counts := map[api.Errno]int{}
	mixedWells(6, 600, func(w api.Well, day int) {
		before, _ := well.Number(w, day)
		alone, _ := well.Alone(w, day)
		for _, o := range ops(w) {
			for _, passes := range []bool{false, true} {
				behind, cost, e := well.Do(w, day, o, passes)
				want, price, f := doAsSaid(w, day, o, passes)
				if e != f || cost != price || !same(behind, want) {
					t.Fatal(w, day, o, passes, behind, cost, e, want, price, f)
				}
				counts[e]++
				if e != api.OK {
					continue
				}
				if o.Kind == api.WellOpen && slices.Contains(alone, o.Part) && w.Need > 0 {
					t.Fatal(w, day, o)
				}
				if n, e := well.Number(behind, day); e != api.OK || n < min(w.Need, before) {
					t.Fatal(w, day, o, n, e)
				}
			}
		}
	})
	for _, e := range []api.Errno{api.OK, api.ErrState, api.ErrRule} {
		if counts[e] < 300 {
			t.Error("the operations are not mixed", counts)
		}
	}
}

// P0.4: however many operations follow one another, on days that follow one another, none leaves fewer barriers than there were ahead of it, but where there are more than are needed.
func TestManyOperationsAreSafe(t *testing.T) {
	r := rand.New(rand.NewSource(7))
	done := 0
	mixedWells(8, 300, func(w api.Well, day int) {
		for range 30 {
			before, _ := well.Number(w, day)
			o := ops(w)[r.Intn(4*len(w.Parts))]
			behind, _, e := well.Do(w, day, o, r.Intn(2) == 0)
			if e != api.OK {
				continue
			}
			done++
			if well.Check(behind) != api.OK || numberAsSaid(behind, day) < min(before, w.Need) {
				t.Fatal(w, day, o, behind)
			}
			w = behind
			day += r.Intn(2)
		}
	})
	if done < 1000 {
		t.Error("operations are seldom done", done)
	}
}

// P4.3: errors, in their order.
func TestDoErrors(t *testing.T) {
	check := func(name string, w api.Well, day int, o api.WellOp) {
		for _, passes := range []bool{false, true} {
			if got, cost, e := well.Do(w, day, o, passes); e != api.ErrArg || cost != 0 || !isZero(got) {
				t.Error(name, got, cost, e)
			}
		}
	}
	for _, b := range badWells() {
		w := example()
		b.change(&w)
		check(b.name, w, 200, op(api.WellClose, 0))
	}
	for _, day := range []int{math.MinInt, -1, api.WellDays + 1, math.MaxInt} {
		check("a day", example(), day, op(api.WellOpen, 2))
	}
	for _, kind := range []api.WellKind{math.MinInt, -1, 0, api.WellChange + 1, math.MaxInt} {
		check("a kind", example(), 200, op(kind, 0))
	}
	for _, i := range []int{math.MinInt, -1, 6, math.MaxInt} {
		check("a part", example(), 200, op(api.WellChange, i))
	}
}
