package well_test

import (
	"math"
	"math/rand"
	"slices"
	"testing"

	"saltdome/api"
	"saltdome/well"
)

func want(part int, open, good bool) api.WellWant {
	return api.WellWant{Part: part, Open: open, Good: good}
}

func goalOf(wants ...api.WellWant) []api.WellWant { return wants }

// P4.4: the examples of the chapter.
func TestExampleAdvise(t *testing.T) {
	open := goalOf(want(0, true, false))
	for i, x := range []struct {
		goal  []api.WellWant
		fails int
		op    api.WellOp
		cost  int
		e     api.Errno
	}{
		{open, 0, op(api.WellTest, 1), 2, api.OK},
		{open, 1, op(api.WellChange, 1), 11, api.OK},
		{goalOf(want(0, true, false), want(2, true, false)), 0, api.WellOp{}, 0, api.ErrNone},
		{goalOf(want(0, true, false), want(3, true, false)), 3, api.WellOp{}, 0, api.ErrNone},
	} {
		if o, cost, e := well.Advise(example(), 200, x.goal, x.fails); e != x.e || o != x.op || cost != x.cost {
			t.Error(i, o, cost, e)
		}
	}
}

// P4.4
func TestAdvise(t *testing.T) {
	free := func(parts ...api.WellPart) api.Well { return wellOf(api.WellRooms, 0, parts...) }
	oldValve, badValve := costing(3, 8, aged(part(0, 1))), costing(3, 8, broken(part(0, 1)))
	// either of two old valves in a row with one to be opened will do
	either := wellOf(4, 1, costing(1, 100, aged(part(0, 2))), costing(2, 90, aged(part(2, 3))), part(3, 1))
	// both the part 0 is to be opened and the part 1 to be closed, which too many barriers at another time forbid
	detour := wellOf(4, 2, part(0, 2), opened(part(2, 1)), part(0, 3), part(3, 1))
	for name, x := range map[string]struct {
		w     api.Well
		goal  []api.WellWant
		fails int
		op    api.WellOp
		cost  int
	}{
		"open":                               {free(part(0, 1)), goalOf(want(0, true, false)), 0, op(api.WellOpen, 0), 1},
		"open, and good":                     {free(part(0, 1)), goalOf(want(0, true, true)), 3, op(api.WellOpen, 0), 1},
		"close":                              {free(opened(part(0, 1))), goalOf(want(0, false, false)), 0, op(api.WellClose, 0), 1},
		"close an old one":                   {free(opened(oldValve)), goalOf(want(0, false, false)), 0, op(api.WellClose, 0), 1},
		"open an old one":                    {free(oldValve), goalOf(want(0, true, false)), 0, op(api.WellOpen, 0), 1},
		"test":                               {free(oldValve), goalOf(want(0, false, true)), 0, op(api.WellTest, 0), 3},
		"test and open":                      {free(oldValve), goalOf(want(0, true, true)), 0, op(api.WellTest, 0), 4},
		"close and test":                     {free(opened(oldValve)), goalOf(want(0, false, true)), 0, op(api.WellClose, 0), 4},
		"close, test and open":               {free(opened(oldValve)), goalOf(want(0, true, true)), 0, op(api.WellClose, 0), 5},
		"change what may fail":               {free(oldValve), goalOf(want(0, false, true)), 1, op(api.WellChange, 0), 8},
		"change what is bad":                 {free(badValve), goalOf(want(0, false, true)), 0, op(api.WellChange, 0), 8},
		"close, change and open":             {free(opened(badValve)), goalOf(want(0, true, true)), 0, op(api.WellClose, 0), 10},
		"a wall that is bad":                 {free(wall(badValve)), goalOf(want(0, false, true)), 0, op(api.WellChange, 0), 8},
		"a wall that is old":                 {free(wall(oldValve)), goalOf(want(0, false, true)), 0, op(api.WellTest, 0), 3},
		"change for less than a test":        {free(costing(9, 8, oldValve)), goalOf(want(0, false, true)), 0, op(api.WellChange, 0), 8},
		"test for as much as a change":       {free(costing(8, 8, oldValve)), goalOf(want(0, false, true)), 0, op(api.WellTest, 0), 8},
		"of two, the first part":             {free(oldValve, oldValve), goalOf(want(0, false, true), want(1, false, true)), 0, op(api.WellTest, 0), 6},
		"of two, the first kind":             {free(oldValve, part(0, 1)), goalOf(want(0, false, true), want(1, true, false)), 0, op(api.WellOpen, 1), 4},
		"to open comes ahead of to close":    {free(opened(part(0, 1)), part(0, 1)), goalOf(want(0, false, false), want(1, true, false)), 0, op(api.WellOpen, 1), 2},
		"to close comes ahead of to test":    {free(oldValve, opened(part(0, 1))), goalOf(want(0, false, true), want(1, false, false)), 0, op(api.WellClose, 1), 4},
		"to test comes ahead of to change":   {free(badValve, oldValve), goalOf(want(0, false, true), want(1, false, true)), 0, op(api.WellTest, 1), 11},
		"only one of two tests fails":        {free(oldValve, oldValve), goalOf(want(0, false, true), want(1, false, true)), 1, op(api.WellTest, 0), 14},
		"whichever of two tests fails":       {free(oldValve, oldValve), goalOf(want(0, false, true), want(1, false, true)), 2, op(api.WellChange, 0), 16},
		"either, and none fails":             {either, goalOf(want(2, true, false)), 0, op(api.WellTest, 0), 2},
		"either, and one fails":              {either, goalOf(want(2, true, false)), 1, op(api.WellTest, 0), 4},
		"either, and both fail":              {either, goalOf(want(2, true, false)), 2, op(api.WellChange, 1), 91},
		"a detour":                           {detour, goalOf(want(0, true, false), want(1, false, false)), 0, op(api.WellOpen, 2), 3},
		"a detour and back":                  {detour, goalOf(want(0, true, false), want(1, false, false), want(2, false, true), want(3, false, false)), 0, op(api.WellOpen, 2), 4},
		"the greatest costs":                 {free(costing(api.WellCost, api.WellCost, oldValve)), goalOf(want(0, false, true)), 3, op(api.WellChange, 0), api.WellCost},
		"parts without ways are old as well": {free(costing(1, 4, aged(part(2, 3)))), goalOf(want(0, false, true)), 0, op(api.WellTest, 0), 1},
	} {
		if o, cost, e := well.Advise(x.w, today, x.goal, x.fails); e != api.OK || o != x.op || cost != x.cost {
			t.Error(name, o, cost, e)
		}
	}
}

// P4.4: for a goal that is met there is nothing to do, and for one to which no operations lead there is nothing to be done.
func TestAdviseNothing(t *testing.T) {
	w := wellOf(3, 2, part(0, 2), part(2, 1), opened(part(2, 1)), wall(broken(part(2, 1))))
	met := goalOf(want(0, false, true), want(2, true, true), want(3, false, false))
	never := [][]api.WellWant{
		goalOf(want(3, true, false)),
		goalOf(want(0, false, false), want(3, true, true)),
	}
	shut := wellOf(3, 2, part(0, 2), part(2, 1))
	for fails := range api.WellFails + 1 {
		for _, goal := range [][]api.WellWant{met, nil, {}} {
			if o, cost, e := well.Advise(w, today, goal, fails); e != api.OK || o != (api.WellOp{}) || cost != 0 {
				t.Error(goal, fails, o, cost, e)
			}
		}
		for _, goal := range never {
			if o, cost, e := well.Advise(w, today, goal, fails); e != api.ErrNone || o != (api.WellOp{}) || cost != 0 {
				t.Error(goal, fails, o, cost, e)
			}
		}
		if o, cost, e := well.Advise(shut, today, goalOf(want(1, true, false)), fails); e != api.ErrNone || o != (api.WellOp{}) || cost != 0 {
			t.Error(fails, o, cost, e)
		}
	}
}

// node is a well that operations can lead to, and what leads on from there.
type node struct {
	w     api.Well
	steps []step
	costs [api.WellFails + 1]int
}

// step is an operation, what it costs, and the numbers of the nodes behind it: the first one, if its test passes.
type step struct {
	op      api.WellOp
	cost    int
	results []int
}

// never is more than any goal costs.
const never = 1 << 40

// nodesOf returns all wells that operations lead to on a day, the well itself first.
func nodesOf(w api.Well, day int) []node {
	numbers := map[[api.WellPlan]api.WellPart]int{}
	var nodes []node
	number := func(w api.Well) int {
		key := [api.WellPlan]api.WellPart{}
		copy(key[:], w.Parts)
		n, ok := numbers[key]
		if !ok {
			n = len(nodes)
			numbers[key] = n
			nodes = append(nodes, node{w: w})
		}
		return n
	}
	number(w)
	for i := 0; i < len(nodes); i++ {
		for _, o := range ops(w) {
			behind, cost, e := doAsSaid(nodes[i].w, day, o, true)
			if e != api.OK {
				continue
			}
			s := step{o, cost, []int{number(behind)}}
			if o.Kind == api.WellTest {
				failed, _, _ := doAsSaid(nodes[i].w, day, o, false)
				s.results = append(s.results, number(failed))
			}
			nodes[i].steps = append(nodes[i].steps, s)
		}
	}
	return nodes
}

// stepCost returns what a goal costs if a step is made first and so many tests fail.
func stepCost(nodes []node, s step, fails int) int {
	worst := nodes[s.results[0]].costs[fails]
	if len(s.results) > 1 && fails > 0 {
		worst = max(worst, nodes[s.results[1]].costs[fails-1])
	}
	return min(never, s.cost+worst)
}

// price sets what a goal costs at all nodes.
func price(nodes []node, day int, goal []api.WellWant) {
	for i := range nodes {
		for fails := range nodes[i].costs {
			nodes[i].costs[fails] = never
			if metAsSaid(nodes[i].w, day, goal) {
				nodes[i].costs[fails] = 0
			}
		}
	}
	for lower := true; lower; {
		lower = false
		for i := range nodes {
			for _, s := range nodes[i].steps {
				for fails := range nodes[i].costs {
					if cost := stepCost(nodes, s, fails); cost < nodes[i].costs[fails] {
						nodes[i].costs[fails], lower = cost, true
					}
				}
			}
		}
	}
}

// adviceAsSaid returns the first operation with which a goal can be come to at its cost, and the cost.
func adviceAsSaid(nodes []node, fails int) (api.WellOp, int, api.Errno) {
	cost := nodes[0].costs[fails]
	switch cost {
	case never:
		return api.WellOp{}, 0, api.ErrNone
	case 0:
		return api.WellOp{}, 0, api.OK
	}
	first := slices.IndexFunc(nodes[0].steps, func(s step) bool { return stepCost(nodes, s, fails) == cost })
	return nodes[0].steps[first].op, cost, api.OK
}

// whyAsSaid returns the first want to which alone no operations lead.
func whyAsSaid(nodes []node, day int, goal []api.WellWant) (int, api.Errno) {
	leads := func(goal []api.WellWant) bool {
		return slices.ContainsFunc(nodes, func(n node) bool { return metAsSaid(n.w, day, goal) })
	}
	if leads(goal) {
		return 0, api.ErrState
	}
	for i := range goal {
		if !leads(goal[i : i+1]) {
			return i, api.OK
		}
	}
	return -1, api.OK
}

// row returns a well with one way, which leads through all parts.
func row(r *rand.Rand, parts int) api.Well {
	w := api.Well{Rooms: parts + 1, Need: r.Intn(parts + 1)}
	room := 0
	for i := range parts {
		next := i + 2
		if i == parts-1 {
			next = 1
		}
		w.Parts = append(w.Parts, somePart(r, room, next))
		room = next
	}
	return w
}

// planWell returns a well for which much can be planned.
func planWell(r *rand.Rand, parts int) api.Well {
	switch r.Intn(3) {
	case 0:
		return someWell(r, 2+r.Intn(3), parts)
	case 1:
		return ladder(r, parts)
	}
	return row(r, parts)
}

// P4.4, P4.5: what is advised, and what is told where nothing can be, is what the chapter says.
func TestAdviseAndWhyAreTrue(t *testing.T) {
	r := rand.New(rand.NewSource(9))
	kinds, whys := map[api.WellKind]int{}, map[int]int{}
	for i := range 1000 {
		w := planWell(r, 1+i%4)
		nodes := nodesOf(w, today)
		for range 5 {
			goal := someGoal(r, w)
			price(nodes, today, goal)
			for fails := range api.WellFails + 1 {
				o, cost, e := well.Advise(w, today, goal, fails)
				best, least, f := adviceAsSaid(nodes, fails)
				if o != best || cost != least || e != f {
					t.Fatal(w, goal, fails, o, cost, e, best, least, f)
				}
				kinds[o.Kind]++
			}
			i, e := well.Why(w, today, goal)
			j, f := whyAsSaid(nodes, today, goal)
			if i != j || e != f {
				t.Fatal(w, goal, i, e, j, f)
			}
			if e == api.OK {
				whys[i]++
			}
		}
	}
	for kind := range api.WellChange + 1 {
		if kinds[kind] < 100 {
			t.Error("the advice is not mixed", kinds)
		}
	}
	for i := -1; i <= 1; i++ {
		if whys[i] < 10 {
			t.Error("the reasons are not mixed", whys)
		}
	}
}

// result is whether a test passes, and how many can still fail then.
type result struct {
	passes bool
	fails  int
}

// resultsOf returns what can come of an operation if so many tests can fail.
func resultsOf(o api.WellOp, fails int) []result {
	l := []result{{true, fails}}
	if o.Kind == api.WellTest && fails > 0 {
		l = append(l, result{false, fails - 1})
	}
	return l
}

// follow does what is advised, whichever tests fail, and asks again after each operation; it returns the greatest cost with which the goal is come to.
func follow(t *testing.T, w api.Well, goal []api.WellWant, fails int) int {
	o, told, e := well.Advise(w, today, goal, fails)
	if e != api.OK {
		t.Fatal(w, goal, fails, e)
	}
	if metAsSaid(w, today, goal) {
		if o != (api.WellOp{}) || told != 0 {
			t.Fatal(w, goal, o, told)
		}
		return 0
	}
	worst := 0
	for _, x := range resultsOf(o, fails) {
		behind, cost, e := well.Do(w, today, o, x.passes)
		if e != api.OK || cost < 1 {
			t.Fatal(w, goal, o, cost, e)
		}
		worst = max(worst, cost+follow(t, behind, goal, x.fails))
	}
	if worst != told {
		t.Fatal(w, goal, fails, told, worst)
	}
	return worst
}

// P4.4, P0.4: whoever does what is advised comes to the goal at the cost that was told, if the tests fail that make it the greatest, and never at more.
func TestAdviceIsFollowed(t *testing.T) {
	r := rand.New(rand.NewSource(10))
	led := 0
	for i := range 150 {
		w := planWell(r, 4+i%3)
		goal := someGoal(r, w)
		for fails := range api.WellFails + 1 {
			if _, _, e := well.Advise(w, today, goal, fails); e == api.OK {
				led++
				follow(t, w, goal, fails)
			}
		}
	}
	if led < 200 {
		t.Error("goals can seldom be come to", led)
	}
}

// after returns what a goal costs if an operation is done first; false, if it cannot be, or if no operations lead on from there.
func after(w api.Well, goal []api.WellWant, fails int, o api.WellOp) (int, bool) {
	worst := 0
	for _, x := range resultsOf(o, fails) {
		behind, cost, e := well.Do(w, today, o, x.passes)
		if e != api.OK {
			return 0, false
		}
		_, more, e := well.Advise(behind, today, goal, x.fails)
		if e != api.OK {
			return 0, false
		}
		worst = max(worst, cost+more)
	}
	return worst, true
}

// P4.4: no operation does with less than the one that is advised, and none ahead of it with as little; where none is, none leads on.
func TestNothingDoesWithLess(t *testing.T) {
	r := rand.New(rand.NewSource(11))
	led, never := 0, 0
	for i := range 250 {
		w := planWell(r, 4+i%3)
		goal, fails := someGoal(r, w), i%4
		best, told, e := well.Advise(w, today, goal, fails)
		if metAsSaid(w, today, goal) {
			continue
		}
		ahead := true
		for _, o := range ops(w) {
			cost, leads := after(w, goal, fails, o)
			if e == api.ErrNone && leads || e == api.OK && leads && cost < told {
				t.Fatal(w, goal, fails, best, told, e, o, cost)
			}
			if o == best {
				ahead = false
				if !leads || cost != told {
					t.Fatal(w, goal, fails, best, told, cost)
				}
			} else if ahead && leads && e == api.OK && cost == told {
				t.Fatal(w, goal, fails, best, told, o)
			}
		}
		if e == api.OK {
			led++
		} else {
			never++
		}
	}
	if led < 50 || never < 20 {
		t.Error("the goals are not mixed", led, never)
	}
}

// P4.7: to want less, and fewer tests that fail, never cost more.
func TestLessNeverCostsMore(t *testing.T) {
	r := rand.New(rand.NewSource(12))
	less := 0
	for i := range 600 {
		w := planWell(r, 2+i%5)
		goal := someGoal(r, w)
		if len(goal) == 0 {
			continue
		}
		fails := r.Intn(api.WellFails + 1)
		_, cost, e := well.Advise(w, today, goal, fails)
		smaller, fewer, n := slices.Clone(goal), fails, r.Intn(len(goal))
		switch i % 3 {
		case 0:
			smaller = slices.Delete(smaller, n, n+1)
		case 1:
			smaller[n].Good = false
		case 2:
			fewer = r.Intn(fails + 1)
		}
		_, reduced, f := well.Advise(w, today, smaller, fewer)
		if e == api.OK && (f != api.OK || reduced > cost) {
			t.Fatal(w, goal, fails, cost, smaller, fewer, reduced, f)
		}
		if reduced < cost || e != f {
			less++
		}
	}
	if less < 100 {
		t.Error("it seldom costs less", less)
	}
}

// P4.5: the examples of the chapter, and others.
func TestWhy(t *testing.T) {
	shut := wellOf(3, 2, part(0, 2), part(2, 1), opened(part(2, 1)), wall(aged(part(2, 1))))
	open := func(parts ...int) []api.WellWant {
		var goal []api.WellWant
		for _, i := range parts {
			goal = append(goal, want(i, true, false))
		}
		return goal
	}
	for name, x := range map[string]struct {
		w    api.Well
		day  int
		goal []api.WellWant
		want int
		e    api.Errno
	}{
		"the two of the example":       {example(), 200, open(0, 2), -1, api.OK},
		"a wall of the example":        {example(), 200, open(0, 3), 1, api.OK},
		"of two walls the first one":   {example(), 200, open(0, 3, 4), 1, api.OK},
		"a wall ahead":                 {example(), 200, open(3, 4, 5), 0, api.OK},
		"what operations lead to":      {example(), 200, open(0), 0, api.ErrState},
		"what is so already":           {example(), 200, goalOf(want(0, false, true)), 0, api.ErrState},
		"nothing is wanted":            {example(), 200, nil, 0, api.ErrState},
		"the index is one of the goal": {shut, today, open(2, 3), 1, api.OK},
		"a wall that is to be good":    {shut, today, goalOf(want(3, false, true)), 0, api.ErrState},
		"never to be opened":           {wellOf(3, 2, part(0, 2), part(2, 1)), today, open(1), 0, api.OK},
		"the one or the other":         {wellOf(4, 2, part(0, 2), part(2, 3), part(3, 1)), today, open(0, 2), -1, api.OK},
		"the one that can never be":    {wellOf(3, 2, part(0, 2), part(2, 1), part(0, 1)), today, goalOf(want(0, false, true), want(1, true, true), want(2, true, false)), 2, api.OK},
	} {
		if i, e := well.Why(x.w, x.day, x.goal); e != x.e || i != x.want {
			t.Error(name, i, e)
		}
	}
}

// P4.5: whether operations lead to a goal does not hang on how many tests fail.
func TestWhyIsAskedJustWhereNothingIsAdvised(t *testing.T) {
	r := rand.New(rand.NewSource(13))
	for i := range 300 {
		w := planWell(r, 1+i%api.WellPlan)
		goal := someGoal(r, w)
		_, why := well.Why(w, today, goal)
		for fails := range api.WellFails + 1 {
			if _, _, e := well.Advise(w, today, goal, fails); (e == api.OK) != (why == api.ErrState) || (e == api.ErrNone) != (why == api.OK) {
				t.Fatal(w, goal, fails, e, why)
			}
		}
	}
}

// P4.4, P4.5: errors, in their order.
func TestPlanErrors(t *testing.T) {
	check := func(name string, w api.Well, day int, goal []api.WellWant, fails int, want api.Errno) {
		if o, cost, e := well.Advise(w, day, goal, fails); e != want || o != (api.WellOp{}) || cost != 0 {
			t.Error(name, o, cost, e)
		}
		if fails < 0 || fails > api.WellFails {
			return
		}
		if i, e := well.Why(w, day, goal); e != want || i != 0 {
			t.Error(name, i, e)
		}
	}
	open := goalOf(want(0, true, false))
	long := example()
	long.Parts = append(long.Parts, long.Parts[0])
	check("too many parts", long, 200, open, 0, api.ErrLong)
	check("too many parts, and no day", long, -1, open, 0, api.ErrLong)
	check("too many parts, and no goal", long, 200, goalOf(want(9, true, false)), -1, api.ErrLong)
	long.Rooms = 0
	check("too many parts, and no well", long, 200, open, 0, api.ErrLong)
	long.Parts = make([]api.WellPart, 1000)
	check("very many parts", long, 200, open, 0, api.ErrLong)
	for _, b := range badWells() {
		w := example()
		b.change(&w)
		check(b.name, w, 200, nil, 0, api.ErrArg)
	}
	for _, day := range []int{math.MinInt, -1, api.WellDays + 1, math.MaxInt} {
		check("a day", example(), day, open, 0, api.ErrArg)
	}
	for _, fails := range []int{math.MinInt, -1, api.WellFails + 1, math.MaxInt} {
		check("tests that fail", example(), 200, open, fails, api.ErrArg)
	}
	for _, parts := range [][]int{{-1}, {math.MinInt}, {6}, {math.MaxInt}, {0, 0}, {1, 0}, {0, 2, 2}, {0, 3, 1}, {0, 1, 6}, {0, 1, 2, 3, 4, 5, 5}} {
		var goal []api.WellWant
		for _, i := range parts {
			goal = append(goal, want(i, false, false))
		}
		check("a goal", example(), 200, goal, 0, api.ErrArg)
	}
}

// P0.1: where there is the most to be thought of, it is not too much.
func TestGreatestPlans(t *testing.T) {
	w := example()
	for i := range w.Parts {
		w.Parts[i].Valve, w.Parts[i].Open, w.Parts[i].Tested, w.Parts[i].Valid = true, i%2 == 0, 0, 0
		w.Parts[i].Test, w.Parts[i].Change = api.WellCost-i, api.WellCost-7*i
	}
	goal := goalOf(want(0, true, true), want(1, false, true), want(2, false, true), want(3, true, true), want(4, false, true), want(5, true, true))
	most := 0
	for _, p := range w.Parts {
		most += p.Test + p.Change + 2
	}
	for fails := range api.WellFails + 1 {
		if o, cost, e := well.Advise(w, 200, goal, fails); e != api.OK || cost < 1000 || cost > most || o == (api.WellOp{}) {
			t.Error(fails, o, cost, e)
		}
	}
	if _, e := well.Why(w, 200, goal); e != api.ErrState {
		t.Error(e)
	}
}
