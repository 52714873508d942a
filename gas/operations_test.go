package gas_test

import (
	"math/rand"
	"slices"
	"testing"

	"saltdome/api"
	"saltdome/gas"
)

// P3.3
func TestDo(t *testing.T) {
	nothing := out(exactly(0), exactly(0), exactly(0))
	lot := point(10, 10, 2000, 7)
	full := state(span(0, api.GasMoles-1), span(0, api.GasMoles-2), span(2000, 5000), span(0, api.GasWater-3))
	other := example()
	other.Heats, other.Rock = [2]int{10, 30}, 4000
	for name, x := range map[string]struct {
		c    api.GasCavern
		s    api.GasState
		op   api.GasOp
		want api.GasState
		out  api.GasOut
	}{
		"the example's injection":  {example(), exampleState(), inject(exampleLot()), state(span(2090, 2190), span(110, 120), span(2995, 3091), span(50000, 60000)), nothing},
		"the example's withdrawal": {example(), exampleState(), withdraw(210), state(span(1800, 1900), span(90, 100), span(3000, 3100), span(45000, 54299)), out(span(200, 201), span(9, 10), span(4751, 6000))},
		"the example's rest":       {example(), exampleState(), rest(span(100, 200), span(10, 20)), state(span(2000, 2100), span(100, 110), span(3020, 3120), span(50010, 60020)), nothing},
		"both heats":               {other, only(point(30, 0, 3000, 1)), inject(lot), only(point(40, 10, 2428, 8)), nothing},
		"a lot that is warmer":     {other, state(span(10, 30), exactly(10), exactly(3000), exactly(0)), inject(point(20, 0, 4000, 0)), state(span(30, 50), exactly(10), span(3250, 3333), exactly(0)), nothing},
		"a lot that is colder":     {other, state(span(10, 30), exactly(10), exactly(3000), exactly(0)), inject(point(20, 0, 2000, 0)), state(span(30, 50), exactly(10), span(2666, 2750), exactly(0)), nothing},
		"colder, or warmer":        {other, state(span(0, 10), exactly(0), span(2000, 4000), exactly(0)), inject(point(10, 0, 3000, 0)), state(span(10, 20), exactly(0), span(2500, 3500), exactly(0)), nothing},
		"into nothing":             {other, state(exactly(0), exactly(0), span(3000, 4000), exactly(0)), inject(lot), only(point(10, 10, 2000, 7)), nothing},
		"into nothing, or gas":     {other, state(span(0, 40), exactly(0), exactly(3000), exactly(0)), inject(lot), state(span(10, 50), exactly(10), span(2000, 2500), exactly(7)), nothing},
		"water only":               {other, state(span(0, 10), span(0, 9), span(3000, 4000), span(0, 5)), inject(point(0, 0, 5000, 7)), state(span(0, 10), span(0, 9), span(3000, 4000), span(7, 12)), nothing},
		"until it is full":         {other, full, inject(point(1, 2, 2000, 3)), state(span(1, api.GasMoles), span(2, api.GasMoles), span(2000, 4999), span(3, api.GasWater)), nothing},
		"all that there surely is": {other, state(span(10, 20), exactly(10), exactly(3000), span(0, 30)), withdraw(20), state(span(0, 6), span(0, 4), exactly(3000), span(0, 10)), out(span(10, 14), span(6, 10), span(0, 30))},
		"all":                      {other, only(point(7, 8, 3000, 9)), withdraw(15), only(point(0, 0, 3000, 0)), out(exactly(7), exactly(8), exactly(9))},
		"nothing of nothing":       {other, state(exactly(0), exactly(0), exactly(3000), span(0, 30)), withdraw(0), state(exactly(0), exactly(0), exactly(3000), span(0, 30)), nothing},
		"hydrogen rounded down":    {other, only(point(2, 1, 3000, 2)), withdraw(2), only(point(0, 1, 3000, 1)), out(exactly(2), exactly(0), exactly(1))},
		"a rest that warms":        {other, only(point(0, 0, 3995, 0)), rest(exactly(399), exactly(0)), only(point(0, 0, 3996, 0)), nothing},
		"rounded towards 0, up":    {other, only(point(0, 0, 3995, 0)), rest(exactly(199), exactly(0)), only(point(0, 0, 3995, 0)), nothing},
		"rounded towards 0, down":  {other, only(point(0, 0, 4005, 0)), rest(exactly(199), exactly(0)), only(point(0, 0, 4005, 0)), nothing},
		"a rest that cools":        {other, only(point(0, 0, 4005, 0)), rest(exactly(399), exactly(0)), only(point(0, 0, 4004, 0)), nothing},
		"on both sides of Rock":    {other, state(exactly(0), exactly(0), span(3000, 5000), exactly(0)), rest(span(100, 900), span(0, 2)), state(exactly(0), exactly(0), span(3100, 4900), span(0, 2)), nothing},
		"quite to Rock":            {other, state(exactly(0), exactly(0), span(2000, 5000), exactly(0)), rest(exactly(1000), exactly(0)), only(point(0, 0, 4000, 0)), nothing},
		"until it is wet":          {other, only(point(0, 0, 4000, api.GasWater-api.GasWet)), rest(exactly(0), span(0, api.GasWet)), state(exactly(0), exactly(0), exactly(4000), span(api.GasWater-api.GasWet, api.GasWater)), nothing},
		"great numbers":            {other, only(point(api.GasMoles, api.GasMoles, 5000, api.GasWater)), withdraw(2*api.GasMoles - 1), only(point(0, 1, 5000, 500)), out(exactly(api.GasMoles), exactly(api.GasMoles-1), exactly(api.GasWater-500))},
	} {
		behind, gone, e := gas.Do(x.c, x.s, x.op)
		if e != api.OK || behind != x.want || gone != x.out {
			t.Error(name, behind, gone, e)
		}
	}
}

// P3.3
func TestDoErrors(t *testing.T) {
	s := state(span(5, api.GasMoles-1), span(6, api.GasMoles-2), span(2000, 5000), span(0, api.GasWater-3))
	check := func(name string, c api.GasCavern, s api.GasState, op api.GasOp, want api.Errno) {
		if behind, gone, e := gas.Do(c, s, op); e != want || behind != (api.GasState{}) || gone != (api.GasOut{}) {
			t.Error(name, behind, gone, e)
		}
	}
	check("too much gas", plain(), s, inject(point(2, 0, 3000, 0)), api.ErrRule)
	check("too much hydrogen", plain(), s, inject(point(0, 3, 3000, 0)), api.ErrRule)
	check("too much water", plain(), s, inject(point(0, 0, 3000, 4)), api.ErrRule)
	check("more than there surely is", plain(), s, withdraw(12), api.ErrRule)
	check("something of nothing", plain(), state(span(0, 9), span(0, 9), exactly(3000), exactly(0)), withdraw(1), api.ErrRule)
	check("too wet", plain(), s, rest(exactly(0), span(0, 4)), api.ErrRule)
	check("a cavern and an operation", api.GasCavern{}, s, withdraw(12), api.ErrArg)
	for _, b := range badCaverns() {
		c := example()
		b.change(&c)
		check(b.name, c, exampleState(), withdraw(210), api.ErrArg)
	}
	for _, b := range badStates() {
		s := exampleState()
		b.change(&s)
		check(b.name, example(), s, withdraw(210), api.ErrArg)
	}
	for name, op := range badOps() {
		check(name, example(), exampleState(), op, api.ErrArg)
	}
}

// P3.3, P0.3: the state behind an operation has all contents that it can lead to, each end is reached by one; so it is with what goes out.
func TestDoIsTrue(t *testing.T) {
	r := rand.New(rand.NewSource(3))
	could := map[api.GasKind]int{}
	for range 6000 {
		c, s, op := smallCavern(r), smallState(r), smallOp(r)
		if r.Intn(8) == 0 {
			s.Water = span(api.GasWater-5, api.GasWater-r.Intn(5))
		}
		behind, gone, ok := behind(c, s, op)
		got, out, e := gas.Do(c, s, op)
		if ok != (e == api.OK) || !ok && e != api.ErrRule || got != behind || out != gone {
			t.Fatal(c, s, op, got, out, e, behind, gone, ok)
		}
		if ok {
			could[op.Kind]++
		}
	}
	if could[api.GasInject] < 1000 || could[api.GasWithdraw] < 1000 || could[api.GasRest] < 1000 {
		t.Error("the operations are not mixed", could)
	}
}

// P3.3, P0.3: great contents, too, lie in the state behind an operation.
func TestDoOfGreatStates(t *testing.T) {
	r := rand.New(rand.NewSource(4))
	c := example()
	could := 0
	for range 3000 {
		s := greatState(r)
		op := greatOp(r, s)
		after, gone, e := gas.Do(c, s, op)
		lies, fits := true, true
		for range 30 {
			p, o, ok := acted(c, somePoint(r, s), op, some(r, op.Share), some(r, op.Wet))
			lies = lies && has(after, p) && in(gone.Gas, o.Gas) && in(gone.Hydrogen, o.Hydrogen) && in(gone.Water, o.Water)
			fits = fits && ok
		}
		if e == api.OK && (!lies || !fits) || e != api.OK && e != api.ErrRule {
			t.Fatal(s, op, after, gone, e)
		}
		if e == api.OK {
			could++
		}
	}
	if could < 2000 {
		t.Error("few operations can be done", could)
	}
}

// P3.3
func TestSteps(t *testing.T) {
	c, s := example(), exampleState()
	a, b, d := inject(exampleLot()), rest(span(100, 200), span(10, 20)), withdraw(220)
	one, _ := done(t, c, s, a)
	two, _ := done(t, c, one, b)
	three, _ := done(t, c, two, d)
	for name, x := range map[string]struct {
		ops  []api.GasOp
		want []api.GasState
		at   int
	}{
		"none":              {nil, nil, -1},
		"all can be done":   {[]api.GasOp{a, b, d}, []api.GasState{one, two, three}, -1},
		"the first cannot":  {[]api.GasOp{withdraw(2101), a}, nil, 0},
		"the second cannot": {[]api.GasOp{a, withdraw(2201), b}, []api.GasState{one}, 1},
		"the last cannot":   {[]api.GasOp{a, b, d, withdraw(1981)}, []api.GasState{one, two, three}, 3},
		"two cannot":        {[]api.GasOp{a, b, withdraw(5000), withdraw(6000)}, []api.GasState{one, two}, 2},
		"as many as can be": {slices.Repeat([]api.GasOp{rest(exactly(0), exactly(0))}, api.GasOps), slices.Repeat([]api.GasState{s}, api.GasOps), -1},
	} {
		if l, at, e := gas.Steps(c, s, x.ops); e != api.OK || at != x.at || !slices.Equal(l, x.want) {
			t.Error(name, l, at, e)
		}
	}
}

// P3.3
func TestStepsErrors(t *testing.T) {
	check := func(name string, c api.GasCavern, s api.GasState, ops []api.GasOp, want api.Errno) {
		if l, at, e := gas.Steps(c, s, ops); e != want || len(l) != 0 || at != 0 {
			t.Error(name, l, at, e)
		}
	}
	fine := withdraw(1)
	check("too many", example(), exampleState(), slices.Repeat([]api.GasOp{fine}, api.GasOps+1), api.ErrLong)
	check("too many, and all is wrong", api.GasCavern{}, api.GasState{}, make([]api.GasOp, api.GasOps+1), api.ErrLong)
	for _, b := range badCaverns() {
		c := example()
		b.change(&c)
		check(b.name, c, exampleState(), []api.GasOp{fine}, api.ErrArg)
	}
	for _, b := range badStates() {
		s := exampleState()
		b.change(&s)
		check(b.name, example(), s, nil, api.ErrArg)
	}
	for name, op := range badOps() {
		check(name, example(), exampleState(), []api.GasOp{fine, op}, api.ErrArg)
		check(name+", behind one that cannot be done", example(), exampleState(), []api.GasOp{withdraw(9999), op}, api.ErrArg)
	}
}

// P3.4
func TestPlay(t *testing.T) {
	ops := []api.GasOp{inject(exampleLot()), rest(span(100, 200), span(10, 20)), withdraw(220)}
	first := point(2000, 100, 3000, 50000)
	wet := point(5, 5, 3000, api.GasWater-10)
	for name, x := range map[string]struct {
		p            api.GasPoint
		ops          []api.GasOp
		shares, wets []int
		want, out    api.GasPoint
		e            api.Errno
	}{
		"the example":               {first, ops, []int{0, 150, 0}, []int{0, 15, 0}, point(1881, 99, 3025, 45014), point(209, 11, 0, 5001), api.OK},
		"no operations":             {first, nil, nil, nil, first, api.GasPoint{}, api.OK},
		"empty lists":               {first, []api.GasOp{}, nil, []int{}, first, api.GasPoint{}, api.OK},
		"two withdrawals":           {point(10, 11, 3000, 19), []api.GasOp{withdraw(4), withdraw(6)}, []int{0, 0}, []int{0, 0}, point(5, 6, 3000, 11), point(5, 5, 0, 8), api.OK},
		"other truths":              {first, ops, []int{0, 100, 0}, []int{0, 20, 0}, point(1881, 99, 3015, 45018), point(209, 11, 0, 5002), api.OK},
		"water that fits":           {wet, []api.GasOp{rest(exactly(0), span(0, 99))}, []int{0}, []int{10}, point(5, 5, 3000, api.GasWater), api.GasPoint{}, api.OK},
		"water that does not":       {wet, []api.GasOp{rest(exactly(0), span(0, 99))}, []int{0}, []int{11}, api.GasPoint{}, api.GasPoint{}, api.ErrRule},
		"too few kilomoles":         {wet, []api.GasOp{withdraw(5), withdraw(6)}, []int{0, 0}, []int{0, 0}, api.GasPoint{}, api.GasPoint{}, api.ErrRule},
		"too much gas":              {wet, []api.GasOp{withdraw(1), inject(point(api.GasMoles, 0, 3000, 0))}, []int{0, 0}, []int{0, 0}, api.GasPoint{}, api.GasPoint{}, api.ErrRule},
		"too much hydrogen":         {wet, []api.GasOp{inject(point(0, api.GasMoles-4, 3000, 0))}, []int{0}, []int{0}, api.GasPoint{}, api.GasPoint{}, api.ErrRule},
		"too much water comes":      {wet, []api.GasOp{inject(point(0, 0, 3000, 11))}, []int{0}, []int{0}, api.GasPoint{}, api.GasPoint{}, api.ErrRule},
		"just full":                 {wet, []api.GasOp{inject(point(api.GasMoles-5, api.GasMoles-5, 3000, 10))}, []int{0}, []int{0}, point(api.GasMoles, api.GasMoles, 3000, api.GasWater), api.GasPoint{}, api.OK},
		"shares too few":            {first, ops, []int{0, 150}, []int{0, 15, 0}, api.GasPoint{}, api.GasPoint{}, api.ErrArg},
		"shares too many":           {first, ops, []int{0, 150, 0, 0}, []int{0, 15, 0}, api.GasPoint{}, api.GasPoint{}, api.ErrArg},
		"wets too few":              {first, ops, []int{0, 150, 0}, []int{0, 15}, api.GasPoint{}, api.GasPoint{}, api.ErrArg},
		"wets too many":             {first, ops, []int{0, 150, 0}, []int{0, 15, 0, 0}, api.GasPoint{}, api.GasPoint{}, api.ErrArg},
		"a share too small":         {first, ops, []int{0, 99, 0}, []int{0, 15, 0}, api.GasPoint{}, api.GasPoint{}, api.ErrArg},
		"a share too great":         {first, ops, []int{0, 201, 0}, []int{0, 15, 0}, api.GasPoint{}, api.GasPoint{}, api.ErrArg},
		"a wet too small":           {first, ops, []int{0, 150, 0}, []int{0, 9, 0}, api.GasPoint{}, api.GasPoint{}, api.ErrArg},
		"a wet too great":           {first, ops, []int{0, 150, 0}, []int{0, 21, 0}, api.GasPoint{}, api.GasPoint{}, api.ErrArg},
		"a share of an injection":   {first, ops, []int{1, 150, 0}, []int{0, 15, 0}, api.GasPoint{}, api.GasPoint{}, api.ErrArg},
		"a share of a withdrawal":   {first, ops, []int{0, 150, -1}, []int{0, 15, 0}, api.GasPoint{}, api.GasPoint{}, api.ErrArg},
		"a wet of an injection":     {first, ops, []int{0, 150, 0}, []int{-1, 15, 0}, api.GasPoint{}, api.GasPoint{}, api.ErrArg},
		"a wet of a withdrawal":     {first, ops, []int{0, 150, 0}, []int{0, 15, 1}, api.GasPoint{}, api.GasPoint{}, api.ErrArg},
		"ErrArg ahead of ErrRule":   {first, []api.GasOp{withdraw(9999), {}}, []int{0, 0}, []int{0, 0}, api.GasPoint{}, api.GasPoint{}, api.ErrArg},
		"ErrLong ahead of ErrArg":   {point(-1, 0, 0, 0), make([]api.GasOp, api.GasOps+1), nil, nil, api.GasPoint{}, api.GasPoint{}, api.ErrLong},
		"more truths than there be": {first, nil, make([]int, api.GasOps+1), make([]int, api.GasOps+1), api.GasPoint{}, api.GasPoint{}, api.ErrArg},
	} {
		p, out, e := gas.Play(example(), x.p, x.ops, x.shares, x.wets)
		if e != x.e || p != x.want || out != x.out {
			t.Error(name, p, out, e)
		}
	}
}

// P3.4
func TestPlayErrors(t *testing.T) {
	check := func(name string, c api.GasCavern, p api.GasPoint, op api.GasOp) {
		if q, out, e := gas.Play(c, p, []api.GasOp{op}, []int{0}, []int{0}); e != api.ErrArg || q != (api.GasPoint{}) || out != (api.GasPoint{}) {
			t.Error(name, q, out, e)
		}
	}
	for _, b := range badCaverns() {
		c := example()
		b.change(&c)
		check(b.name, c, exampleLot(), withdraw(1))
	}
	for _, b := range badPoints() {
		p := exampleLot()
		b.change(&p)
		check(b.name, example(), p, withdraw(1))
	}
	for name, op := range badOps() {
		check(name, example(), exampleLot(), op)
	}
}

// life is some operations, with what is true in them.
type life struct {
	ops          []api.GasOp
	shares, wets []int
}

// someLife returns operations, most of which can be done one after the other.
func someLife(r *rand.Rand, c api.GasCavern, s api.GasState) life {
	var l life
	for range r.Intn(api.GasOps + 1) {
		op := greatOp(r, s)
		if after, _, e := gas.Do(c, s, op); e == api.OK {
			s = after
		} else if r.Intn(3) > 0 {
			continue
		}
		l.ops = append(l.ops, op)
		l.shares, l.wets = append(l.shares, some(r, op.Share)), append(l.wets, some(r, op.Wet))
	}
	return l
}

// comes returns all that the operations of a life bring.
func (l life) comes() api.GasPoint {
	var p api.GasPoint
	for i, op := range l.ops {
		p.Gas += op.Lot.Gas
		p.Hydrogen += op.Lot.Hydrogen
		p.Water += op.Lot.Water + l.wets[i]
	}
	return p
}

// P3.3, P3.4, P0.3: what is true lies in the states of Steps, is what the chapter says, and of each kind nothing is lost or made.
func TestPlayIsTrue(t *testing.T) {
	r := rand.New(rand.NewSource(5))
	ends := map[api.Errno]int{}
	for range 3000 {
		c := smallCavern(r)
		s := greatState(r)
		l := someLife(r, c, s)
		states, stopped, e := gas.Steps(c, s, l.ops)
		first := somePoint(r, s)
		p, gone, want := first, api.GasPoint{}, api.OK
		for i, op := range l.ops {
			q, o, ok := acted(c, p, op, l.shares[i], l.wets[i])
			if !ok {
				want = api.ErrRule
				break
			}
			if i < len(states) && !has(states[i], q) {
				t.Fatal(c, s, l, first, i, q, states[i])
			}
			p, gone = q, point(gone.Gas+o.Gas, gone.Hydrogen+o.Hydrogen, 0, gone.Water+o.Water)
		}
		if e != api.OK || stopped < 0 && want != api.OK || stopped >= 0 && len(states) != stopped || stopped < 0 && len(states) != len(l.ops) {
			t.Fatal(c, s, l, states, stopped, e, want)
		}
		end, out, e := gas.Play(c, first, l.ops, l.shares, l.wets)
		if e != want || e == api.OK && (end != p || out != gone) {
			t.Fatal(c, first, l, end, out, e, p, gone, want)
		}
		comes := l.comes()
		if e == api.OK && (end.Gas+out.Gas != first.Gas+comes.Gas || end.Hydrogen+out.Hydrogen != first.Hydrogen+comes.Hydrogen || end.Water+out.Water != first.Water+comes.Water || out.Heat != 0) {
			t.Fatal(c, first, l, end, out)
		}
		ends[e]++
	}
	if ends[api.OK] < 1000 || ends[api.ErrRule] < 100 {
		t.Error("the lives are not mixed", ends)
	}
}

// P3.7: a state whose contents are all in another one leads to a state whose contents are all in the one to which that leads.
func TestLessLeadsToLess(t *testing.T) {
	r := rand.New(rand.NewSource(6))
	could := 0
	for range 5000 {
		c, s := smallCavern(r), greatState(r)
		op := greatOp(r, s)
		if r.Intn(2) == 0 {
			s, op = smallState(r), smallOp(r)
		}
		after, gone, e := gas.Do(c, s, op)
		if e != api.OK {
			continue
		}
		could++
		less := partState(r, s)
		lessAfter, lessGone := done(t, c, less, op)
		if !hasAll(after, lessAfter) || !inside(lessGone.Gas, gone.Gas) || !inside(lessGone.Hydrogen, gone.Hydrogen) || !inside(lessGone.Water, gone.Water) {
			t.Fatal(c, s, less, op, after, gone, lessAfter, lessGone)
		}
	}
	if could < 2500 {
		t.Error("few operations can be done", could)
	}
}

// P3.7: to withdraw nothing, to inject nothing, and to rest without heat and water change nothing.
func TestNothingChanges(t *testing.T) {
	r := rand.New(rand.NewSource(7))
	for range 2000 {
		c, s := smallCavern(r), greatState(r)
		if r.Intn(2) == 0 {
			s = smallState(r)
		}
		p := somePoint(r, s)
		for _, op := range []api.GasOp{withdraw(0), inject(point(0, 0, some(r, span(api.GasCold, api.GasHot)), 0)), rest(exactly(0), exactly(0))} {
			if after, gone := done(t, c, s, op); after != s || gone != (api.GasOut{}) {
				t.Fatal(c, s, op, after, gone)
			}
			if q, gone, e := gas.Play(c, p, []api.GasOp{op}, []int{0}, []int{0}); e != api.OK || q != p || gone != (api.GasPoint{}) {
				t.Fatal(c, p, op, q, gone, e)
			}
		}
	}
}
