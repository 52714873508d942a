package well_test

import (
	"math"
	"math/rand"
	"slices"
	"testing"

	"saltdome/api"
	"saltdome/well"
)

// P4.1
func TestCheck(t *testing.T) {
	least := wellOf(2, 0, api.WellPart{One: 1, Other: 0, Test: 1, Change: 1})
	most := wellOf(api.WellRooms, api.WellParts)
	for range api.WellParts {
		most.Parts = append(most.Parts, api.WellPart{One: 7, Other: 6, Valve: true, Open: true, Tested: api.WellDays, Valid: api.WellDays, Bad: true, Test: api.WellCost, Change: api.WellCost})
	}
	for _, w := range []api.Well{example(), least, most} {
		if e := well.Check(w); e != api.OK {
			t.Error(w, e)
		}
	}
	most.Parts = append(most.Parts, most.Parts[0])
	if e := well.Check(most); e != api.ErrArg {
		t.Error("too many parts", e)
	}
	for _, b := range badWells() {
		w := example()
		b.change(&w)
		if e := well.Check(w); e != api.ErrArg {
			t.Error(b.name, e)
		}
	}
}

// P4.1: the examples of the chapter.
func TestExampleBarriers(t *testing.T) {
	for day, want := range map[int]int{0: 2, 190: 2, 191: 2, 200: 2, 280: 2, 281: 1, 515: 1, 516: 0, api.WellDays: 0} {
		if n, e := well.Number(example(), day); e != api.OK || n != want {
			t.Error(day, n, e)
		}
	}
	for day, x := range map[int]struct {
		barriers [][]int
		way      []int
	}{
		190: {[][]int{{0, 3}, {1, 4}}, []int{3, 4}},
		200: {[][]int{{0, 3}, {2, 4}}, []int{0, 1, 2}},
		281: {[][]int{{2, 3, 5}}, []int{0, 1, 2}},
		516: {nil, []int{0, 1, 2}},
	} {
		if barriers, way, e := well.Barriers(example(), day); e != api.OK || !equal(barriers, x.barriers) || !slices.Equal(way, x.way) {
			t.Error(day, barriers, way, e)
		}
	}
}

// P4.1
func TestNumberAndBarriers(t *testing.T) {
	shut := part
	for name, x := range map[string]struct {
		w        api.Well
		number   int
		barriers [][]int
		way      []int
	}{
		"a valve":                         {wellOf(2, 0, shut(0, 1)), 1, [][]int{{0}}, []int{0}},
		"a wall, turned":                  {wellOf(2, 0, wall(shut(1, 0))), 1, [][]int{{0}}, []int{0}},
		"a valve that is open":            {wellOf(2, 0, opened(shut(0, 1))), 0, nil, []int{0}},
		"an old one":                      {wellOf(2, 0, aged(shut(0, 1))), 0, nil, []int{0}},
		"a bad one":                       {wellOf(2, 0, broken(shut(0, 1))), 0, nil, []int{0}},
		"in a row":                        {wellOf(3, 0, shut(2, 1), shut(0, 2)), 2, [][]int{{1}, {0}}, []int{1, 0}},
		"side by side":                    {wellOf(2, 0, shut(0, 1), shut(1, 0)), 1, [][]int{{0, 1}}, []int{0}},
		"side by side, one open":          {wellOf(2, 0, shut(0, 1), opened(shut(0, 1))), 0, nil, []int{1}},
		"no way":                          {wellOf(3, 0, shut(0, 2), opened(shut(0, 2))), 3, nil, nil},
		"no way to the gas":               {wellOf(3, 0, shut(1, 2)), 2, nil, nil},
		"a longer way with fewer":         {wellOf(4, 0, shut(0, 1), opened(shut(0, 2)), opened(shut(2, 3)), opened(shut(3, 1))), 0, nil, []int{1, 2, 3}},
		"a longer way with one":           {wellOf(4, 0, shut(0, 1), opened(shut(0, 2)), shut(2, 3), opened(shut(3, 1))), 1, [][]int{{0, 2}}, []int{0}},
		"a longer way is the first":       {wellOf(4, 0, opened(shut(0, 2)), shut(0, 1), shut(2, 3), opened(shut(3, 1))), 1, [][]int{{1, 2}}, []int{0, 2, 3}},
		"a part that leads nowhere":       {wellOf(3, 0, shut(0, 2), shut(0, 1)), 1, [][]int{{0, 1}}, []int{1}},
		"a part beyond the world":         {wellOf(3, 0, opened(shut(1, 2)), shut(0, 1)), 1, [][]int{{1}}, []int{1}},
		"a tight part beyond the world":   {wellOf(3, 0, shut(1, 2), shut(0, 1)), 1, [][]int{{1}}, []int{1}},
		"parts that nothing leads to":     {wellOf(4, 0, shut(2, 3), shut(0, 1)), 1, [][]int{{1}}, []int{1}},
		"a part between equal distances":  {wellOf(4, 0, shut(0, 2), shut(0, 3), shut(2, 3), shut(2, 1), shut(3, 1)), 2, [][]int{{0, 1}, {3, 4}}, []int{0, 3}},
		"not round by the gas":            {wellOf(3, 0, opened(shut(0, 2)), opened(shut(2, 0)), shut(0, 1)), 1, [][]int{{2}}, []int{2}},
		"not through the world and back":  {wellOf(3, 0, shut(0, 1), opened(shut(1, 2)), shut(2, 0)), 1, [][]int{{0, 2}}, []int{0}},
		"as long as it can be":            {wellOf(8, 0, shut(0, 2), shut(2, 3), shut(3, 4), shut(4, 5), shut(5, 6), shut(6, 7), shut(7, 1)), 7, [][]int{{0}, {1}, {2}, {3}, {4}, {5}, {6}}, []int{0, 1, 2, 3, 4, 5, 6}},
		"not tight, but in between":       {wellOf(5, 0, shut(0, 2), aged(shut(2, 3)), broken(shut(3, 4)), shut(4, 1)), 2, [][]int{{0}, {3}}, []int{0, 1, 2, 3}},
		"the first one is not the best":   {wellOf(3, 0, shut(0, 2), opened(shut(0, 2)), shut(2, 1)), 1, [][]int{{2}}, []int{1, 2}},
		"a part that cannot be gone back": {wellOf(4, 0, opened(shut(0, 3)), shut(0, 2), opened(shut(3, 2)), opened(shut(2, 1))), 0, nil, []int{0, 2, 3}},
	} {
		if n, e := well.Number(x.w, today); e != api.OK || n != x.number {
			t.Error(name, n, e)
		}
		barriers, way, e := well.Barriers(x.w, today)
		if want := wayError(x.way); e != want || !equal(barriers, x.barriers) || !slices.Equal(way, x.way) {
			t.Error(name, barriers, way, e)
		}
	}
}

// wayError returns the error of Barriers for a well with some way, or with none.
func wayError(way []int) api.Errno {
	if way == nil {
		return api.ErrNone
	}
	return api.OK
}

// P4.1: a part is good up to the day that its last test is good for; a test of a later day is good as well.
func TestOldParts(t *testing.T) {
	for i, x := range []struct {
		tested, valid, day, want int
	}{{10, 5, 15, 1}, {10, 5, 16, 0}, {10, 0, 10, 1}, {10, 0, 11, 0}, {0, 0, 0, 1}, {0, 0, 1, 0}, {20, 0, 10, 1}, {api.WellDays, api.WellDays, api.WellDays, 1}, {0, api.WellDays, api.WellDays, 1}, {0, api.WellDays - 1, api.WellDays, 0}} {
		p := part(0, 1)
		p.Tested, p.Valid = x.tested, x.valid
		if n, e := well.Number(wellOf(2, 0, p), x.day); e != api.OK || n != x.want {
			t.Error(i, n, e)
		}
		if n, e := well.Number(wellOf(2, 0, broken(p)), x.day); e != api.OK || n != 0 {
			t.Error(i, n, e)
		}
	}
}

// mixedWells calls a test with wells of all sizes, with few tight parts and with many, and days.
func mixedWells(seed int64, number int, test func(api.Well, int)) {
	r := rand.New(rand.NewSource(seed))
	for i := range number {
		w := someWell(r, 2+i%(api.WellRooms-1), 1+r.Intn(api.WellParts))
		if i%3 == 0 {
			w = ladder(r, 1+r.Intn(api.WellParts))
		}
		for p := range w.Parts {
			if i%2 == 0 && r.Intn(3) > 0 {
				w.Parts[p].Open, w.Parts[p].Bad, w.Parts[p].Valid = false, false, 2*today
			}
		}
		test(w, r.Intn(2*today))
	}
}

// P4.1: barriers and ways are what the chapter says, and each way leads through each barrier.
func TestBarriersAreTrue(t *testing.T) {
	counts := map[int]int{}
	mixedWells(1, 3000, func(w api.Well, day int) {
		n, e := well.Number(w, day)
		if e != api.OK || n != numberAsSaid(w, day) {
			t.Fatal(w, day, n, e)
		}
		ways := lists(w, 1)
		barriers, way, e := well.Barriers(w, day)
		if len(ways) == 0 {
			if e != api.ErrNone || len(barriers) > 0 || len(way) > 0 {
				t.Fatal(w, day, barriers, way, e)
			}
			counts[-1]++
			return
		}
		counts[n]++
		first := slices.IndexFunc(ways, func(l []int) bool { return tightOn(w, day, l) <= n })
		if e != api.OK || !slices.Equal(way, ways[first]) || !equal(barriers, barriersAsSaid(w, day)) {
			t.Fatal(w, day, barriers, way, e)
		}
		for _, l := range ways {
			for _, barrier := range barriers {
				if !slices.ContainsFunc(l, func(i int) bool { return slices.Contains(barrier, i) }) {
					t.Fatal(w, day, l, barrier)
				}
			}
		}
	})
	for n := -1; n <= 3; n++ {
		if counts[n] < 20 {
			t.Error("the wells are not mixed", counts)
		}
	}
}

// barriersAsSaid returns the barriers of a well that has a way.
func barriersAsSaid(w api.Well, day int) [][]int {
	var barriers [][]int
	for k := range numberAsSaid(w, day) {
		var barrier []int
		for i, p := range w.Parts {
			one, other := distanceAsSaid(w, day, p.One), distanceAsSaid(w, day, p.Other)
			if isTight(p, day) && (one == k && other == k+1 || one == k+1 && other == k) {
				barrier = append(barrier, i)
			}
		}
		barriers = append(barriers, barrier)
	}
	return barriers
}

// P4.2: the examples of the chapter, and others.
func TestAlone(t *testing.T) {
	for name, x := range map[string]struct {
		w    api.Well
		want []int
	}{
		"one":                         {wellOf(2, 0, part(0, 1)), []int{0}},
		"two in a row":                {wellOf(3, 0, part(0, 2), part(2, 1)), nil},
		"two in a row, one old":       {wellOf(3, 0, part(0, 2), aged(part(2, 1))), []int{0}},
		"side by side":                {wellOf(2, 0, part(0, 1), part(0, 1)), []int{0, 1}},
		"side by side, one open":      {wellOf(2, 0, part(0, 1), opened(part(0, 1))), nil},
		"no way":                      {wellOf(3, 0, part(0, 2), part(0, 2)), nil},
		"one that leads nowhere":      {wellOf(3, 0, part(0, 1), part(0, 2)), []int{0}},
		"two rows that part":          {wellOf(4, 0, part(0, 2), part(2, 1), part(2, 3), part(3, 1)), nil},
		"two rows, the shared one":    {wellOf(4, 0, part(0, 2), opened(part(2, 1)), part(2, 3), part(3, 1)), []int{0}},
		"two rows, each of which has": {wellOf(4, 0, part(0, 2), opened(part(2, 1)), part(0, 3), broken(part(3, 1))), []int{0, 2}},
	} {
		if l, e := well.Alone(x.w, today); e != api.OK || !slices.Equal(l, x.want) {
			t.Error(name, l, e)
		}
	}
	for day, want := range map[int][]int{200: nil, 280: nil, 281: {2}, 516: nil} {
		if l, e := well.Alone(example(), day); e != api.OK || !slices.Equal(l, want) {
			t.Error(day, l, e)
		}
	}
}

// P4.2, P0.4: what holds alone is what the chapter says.
func TestAloneIsTrue(t *testing.T) {
	some := 0
	mixedWells(2, 3000, func(w api.Well, day int) {
		var want []int
		for i, p := range w.Parts {
			without := copied(w)
			without.Parts[i].Bad = true
			if isTight(p, day) && numberAsSaid(w, day) != 0 && numberAsSaid(without, day) == 0 {
				want = append(want, i)
			}
		}
		if l, e := well.Alone(w, day); e != api.OK || !slices.Equal(l, want) {
			t.Fatal(w, day, l, want, e)
		}
		some += len(want)
	})
	if some < 300 {
		t.Error("parts seldom hold alone", some)
	}
}

// P4.2
func TestLasts(t *testing.T) {
	need := func(n int) api.Well {
		w := example()
		w.Need = n
		return w
	}
	forever := part(0, 1)
	forever.Tested, forever.Valid = api.WellDays, api.WellDays
	lastDay := part(0, 1)
	lastDay.Tested, lastDay.Valid = 0, api.WellDays-1
	for name, x := range map[string]struct {
		w         api.Well
		day, want int
		e         api.Errno
	}{
		"the example":                {example(), 200, 281, api.OK},
		"from the first day":         {example(), 0, 281, api.OK},
		"on the day ahead":           {example(), 280, 281, api.OK},
		"on the day itself":          {example(), 281, 281, api.OK},
		"on a later day":             {example(), 282, 282, api.OK},
		"on the last day":            {example(), api.WellDays, api.WellDays, api.OK},
		"with one needed":            {need(1), 200, 516, api.OK},
		"with none needed":           {need(0), 200, 0, api.ErrNone},
		"with three needed":          {need(3), 200, 200, api.OK},
		"with all needed":            {need(api.WellParts), 7, 7, api.OK},
		"for ever":                   {wellOf(2, 1, forever), 0, 0, api.ErrNone},
		"for ever, on the last day":  {wellOf(2, 1, forever), api.WellDays, 0, api.ErrNone},
		"up to the last day":         {wellOf(2, 1, lastDay), 0, api.WellDays, api.OK},
		"no way, and enough for it":  {wellOf(3, 2, part(0, 2)), 5, 0, api.ErrNone},
		"no way, and too few for it": {wellOf(3, 3, part(0, 2)), 5, 5, api.OK},
	} {
		if day, e := well.Lasts(x.w, x.day); e != x.e || day != x.want {
			t.Error(name, day, e)
		}
	}
}

// P4.2: up to the day before the one that is told there are enough barriers, and too few on it.
func TestLastsIsTrue(t *testing.T) {
	ends, never := 0, 0
	mixedWells(3, 1000, func(w api.Well, day int) {
		last, e := well.Lasts(w, day)
		end := last
		if e == api.ErrNone {
			end = api.WellDays
			never++
		} else if e != api.OK || last < day || numberAsSaid(w, last) >= w.Need {
			t.Fatal(w, day, last, e)
		} else if last > day {
			ends++
		}
		for d := day; d < min(end, 4*today); d++ {
			if numberAsSaid(w, d) < w.Need {
				t.Fatal(w, day, d, last, e)
			}
		}
		if e == api.ErrNone && numberAsSaid(w, end) < w.Need {
			t.Fatal(w, day)
		}
	})
	if ends < 50 || never < 50 {
		t.Error("the wells are not mixed", ends, never)
	}
}

// P4.1, P4.2: errors.
func TestLookErrors(t *testing.T) {
	check := func(name string, w api.Well, day int) {
		if n, e := well.Number(w, day); e != api.ErrArg || n != 0 {
			t.Error(name, n, e)
		}
		if barriers, way, e := well.Barriers(w, day); e != api.ErrArg || len(barriers) > 0 || len(way) > 0 {
			t.Error(name, barriers, way, e)
		}
		if l, e := well.Alone(w, day); e != api.ErrArg || len(l) > 0 {
			t.Error(name, l, e)
		}
		if d, e := well.Lasts(w, day); e != api.ErrArg || d != 0 {
			t.Error(name, d, e)
		}
	}
	for _, b := range badWells() {
		w := example()
		b.change(&w)
		check(b.name, w, 200)
	}
	for _, day := range []int{math.MinInt, -1, api.WellDays + 1, math.MaxInt} {
		check("a day", example(), day)
	}
	noWay := wellOf(3, 0, part(0, 2))
	noWay.Parts[0].Test = 0
	check("no well comes ahead of no way", noWay, 0)
}

// P4.7: a test that is good for longer, and a valve that is closed, never make barriers fewer.
func TestLongerTestsAndClosedValves(t *testing.T) {
	r := rand.New(rand.NewSource(4))
	more := 0
	mixedWells(5, 4000, func(w api.Well, day int) {
		better := copied(w)
		p := &better.Parts[r.Intn(len(w.Parts))]
		if r.Intn(2) == 0 {
			p.Open = false
		} else {
			p.Valid += r.Intn(2 * today)
		}
		before, e := well.Number(w, day)
		after, f := well.Number(better, day)
		if e != api.OK || f != api.OK || after < before {
			t.Fatal(w, better, day, before, after)
		}
		if after > before {
			more++
		}
		w.Need = 1 + r.Intn(2)
		better.Need = w.Need
		until, e := well.Lasts(w, day)
		longer, f := well.Lasts(better, day)
		if f == api.OK && (e != api.OK || longer < until) {
			t.Fatal(w, better, day, until, longer)
		}
	})
	if more < 50 {
		t.Error("there are seldom more barriers", more)
	}
}
