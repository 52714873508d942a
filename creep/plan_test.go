package creep_test

import (
	"math/bits"
	"math/rand"
	"slices"
	"testing"

	"saltdome/api"
	"saltdome/creep"
)

// order is what Plan is asked for.
type order struct {
	s         api.CreepSite
	low, rest []int
	warmth    api.Span
	needs     []int
}

func (o order) plan() ([][]int, api.Errno) {
	return creep.Plan(o.s, o.low, o.rest, o.warmth, o.needs)
}

// days returns the days of a plan.
func (o order) days(plan [][]int) []api.CreepDay {
	var days []api.CreepDay
	for _, set := range plan {
		var d api.CreepDay
		for i, p := range o.rest {
			if slices.Contains(set, i) {
				p = o.low[i]
			}
			d.Pressures = append(d.Pressures, exactly(p))
			d.Warmths = append(d.Warmths, o.warmth)
		}
		days = append(days, d)
	}
	return days
}

// holds reports whether a plan holds.
func (o order) holds(t *testing.T, plan [][]int) bool {
	t.Helper()
	x, _ := faultsOf(t, o.s, o.days(plan)...)
	return x.Rule == api.CreepFine
}

// meets reports whether a plan has as many caverns on each day as are needed, in order.
func (o order) meets(plan [][]int) bool {
	if len(plan) != len(o.needs) {
		return false
	}
	for k, set := range plan {
		if len(set) != o.needs[k] || !slices.IsSorted(set) || len(slices.Compact(slices.Clone(set))) != len(set) {
			return false
		}
	}
	return true
}

func equalPlans(a, b [][]int) bool {
	return slices.EqualFunc(a, b, func(x, y []int) bool { return slices.Equal(x, y) })
}

// sets returns all lists of so many of n caverns, in lexicographic order.
func sets(n, count int) [][]int {
	var l [][]int
	for bits := range 1 << n {
		var set []int
		for i := range n {
			if bits>>i&1 == 1 {
				set = append(set, i)
			}
		}
		if len(set) == count {
			l = append(l, set)
		}
	}
	slices.SortFunc(l, slices.Compare)
	return l
}

// firstPlan goes through all plans in lexicographic order, and returns the first one that holds.
func (o order) firstPlan(t *testing.T, begun [][]int) ([][]int, bool) {
	t.Helper()
	if len(begun) == len(o.needs) {
		return begun, o.holds(t, begun)
	}
	for _, set := range sets(len(o.s.Caverns), o.needs[len(begun)]) {
		if plan, ok := o.firstPlan(t, append(slices.Clone(begun), set)); ok {
			return plan, true
		}
	}
	return nil, false
}

// calmOrder asks for a plan of the calm site, in which a cavern that is emptied loses 100 cubic metres and 20 millimetres.
func calmOrder(needs ...int) order {
	return order{calm(), []int{8000, 8000, 8000}, []int{12000, 12000, 12000}, exactly(3000), needs}
}

// P2.6
func TestPlan(t *testing.T) {
	floors := func(a, b, c int) func(*order) {
		return func(o *order) {
			o.s.Houses = nil
			for i, n := range []int{a, b, c} {
				o.s.Caverns[i].Floor = n
			}
		}
	}
	free := floors(0, 0, 0)
	for name, x := range map[string]struct {
		change func(*order)
		needs  []int
		want   [][]int
		e      api.Errno
	}{
		"no days":                        {func(o *order) { o.s.Wall = api.CreepWall; o.warmth = exactly(0) }, nil, nil, api.OK},
		"nothing is needed":              {free, []int{0, 0}, [][]int{{}, {}}, api.OK},
		"all are needed":                 {free, []int{3, 0, 3}, [][]int{{0, 1, 2}, {}, {0, 1, 2}}, api.OK},
		"the first ones":                 {free, []int{1, 2, 1}, [][]int{{0}, {0, 1}, {0}}, api.OK},
		"each once":                      {floors(99900, 99900, 99900), []int{1, 1, 1}, [][]int{{0}, {1}, {2}}, api.OK},
		"each once, and no more":         {floors(99900, 99900, 99900), []int{1, 1, 2}, nil, api.ErrNone},
		"the first must be spared":       {floors(99900, 99800, 99900), []int{1, 1, 2}, [][]int{{0}, {1}, {1, 2}}, api.OK},
		"so that the last day can be":    {floors(99800, 99900, 100000), []int{1, 2}, [][]int{{0}, {0, 1}}, api.OK},
		"not the first":                  {floors(100000, 99000, 99000), []int{1, 2}, [][]int{{1}, {1, 2}}, api.OK},
		"the wall between the first two": {func(o *order) { free(o); o.s.Wall = 39980; o.s.Caverns[2].X = 300 }, []int{1, 1, 1}, [][]int{{0}, {2}, {2}}, api.OK},
		"the ground":                     {func(o *order) { free(o); o.s.Houses = []api.CreepHouse{{Most: 100}, {X: 200, Most: 200}} }, []int{1, 2, 2}, [][]int{{0}, {1, 2}, {1, 2}}, api.OK},
		"the ground bears no more": {func(o *order) {
			free(o)
			o.s.Houses = []api.CreepHouse{{Most: 100}, {X: 200, Most: 200}, {X: 100, Most: 100}}
		}, []int{1, 2, 2}, nil, api.ErrNone},
		"a gate for low":             {func(o *order) { free(o); o.s.Caverns[0].Gate.Low = 8001 }, []int{1, 2}, [][]int{{1}, {1, 2}}, api.OK},
		"a gate for rest":            {func(o *order) { free(o); o.s.Caverns[1].Gate.High = 11999 }, []int{1, 2}, [][]int{{1}, {0, 1}}, api.OK},
		"a gate for neither":         {func(o *order) { free(o); o.s.Caverns[1].Gate = span(9000, 11000) }, []int{1}, nil, api.ErrNone},
		"low is beyond":              {func(o *order) { free(o); o.low[0] = 7999 }, []int{1, 2}, [][]int{{1}, {1, 2}}, api.OK},
		"rest is beyond":             {func(o *order) { free(o); o.rest[2] = 20001; o.s.Caverns[2].Gate.High = 30000 }, []int{1, 2}, [][]int{{2}, {0, 2}}, api.OK},
		"too hot":                    {func(o *order) { free(o); o.warmth = span(3000, 3101) }, []int{0}, nil, api.ErrNone},
		"changes that are too great": {func(o *order) { free(o); o.s.Caverns[0].Change = 3999 }, []int{1, 2, 1}, [][]int{{0}, {0, 1}, {0}}, api.OK},
		"changes, and a volume":      {func(o *order) { floors(99800, 0, 0)(o); o.s.Caverns[0].Change = 3999 }, []int{1, 2, 1}, [][]int{{1}, {1, 2}, {1}}, api.OK},
		"changes of all":             {func(o *order) { free(o); o.s.Caverns[0].Change, o.s.Caverns[1].Change, o.s.Caverns[2].Change = 0, 0, 0 }, []int{1, 2}, nil, api.ErrNone},
		"low above rest":             {func(o *order) { floors(99900, 99900, 99900)(o); o.low, o.rest = o.rest, o.low }, []int{2, 2, 2}, [][]int{{0, 1}, {0, 2}, {1, 2}}, api.OK},
	} {
		o := calmOrder(x.needs...)
		x.change(&o)
		plan, e := o.plan()
		if e != x.e || !equalPlans(plan, x.want) {
			t.Error(name, plan, e)
		}
	}
}

// P2.6
func TestPlanErrors(t *testing.T) {
	many := make([]int, api.CreepDays+1)
	for name, x := range map[string]struct {
		change func(*order)
		e      api.Errno
	}{
		"as many days as can be": {func(o *order) { o.needs = many[1:] }, api.OK},
		"too many days":          {func(o *order) { o.needs = many; o.s.Wall = -1 }, api.ErrLong},
		"no site":                {func(o *order) { o.s.Wall = -1 }, api.ErrArg},
		"too few lows":           {func(o *order) { o.low = o.low[1:] }, api.ErrArg},
		"too many lows":          {func(o *order) { o.low = append(o.low, 1) }, api.ErrArg},
		"low less than 0":        {func(o *order) { o.low[2] = -1 }, api.ErrArg},
		"low too great":          {func(o *order) { o.low[0] = api.CreepPressure + 1 }, api.ErrArg},
		"no rests":               {func(o *order) { o.rest = nil }, api.ErrArg},
		"too many rests":         {func(o *order) { o.rest = append(o.rest, 1) }, api.ErrArg},
		"rest less than 0":       {func(o *order) { o.rest[0] = -1 }, api.ErrArg},
		"rest too great":         {func(o *order) { o.rest[2] = api.CreepPressure + 1 }, api.ErrArg},
		"warmth less than 0":     {func(o *order) { o.warmth.Low = -1 }, api.ErrArg},
		"warmth turned":          {func(o *order) { o.warmth.High-- }, api.ErrArg},
		"warmth too great":       {func(o *order) { o.warmth.High = api.CreepWarmth + 1 }, api.ErrArg},
		"a need less than 0":     {func(o *order) { o.needs = []int{0, -1} }, api.ErrArg},
		"a need too great":       {func(o *order) { o.needs = []int{4} }, api.ErrArg},
		"pressures at the ends":  {func(o *order) { o.low, o.rest = []int{0, 0, 0}, []int{50000, 50000, 50000} }, api.ErrNone},
	} {
		o := calmOrder(0)
		x.change(&o)
		if plan, e := o.plan(); e != x.e || e != api.OK && len(plan) > 0 {
			t.Error(name, plan, e)
		}
	}
}

// someOrder asks for a plan of a small site, with limits near to those that some plan keeps.
func someOrder(r *rand.Rand, n, days int) order {
	o := order{s: small(r, n), warmth: span(0, 0)}
	cold := o.s.Heats[0].Warmth
	o.warmth = span(cold, cold+r.Intn(o.s.Heats[len(o.s.Heats)-1].Warmth-cold+1))
	for i := range o.s.Caverns {
		c := &o.s.Caverns[i]
		deficit := min(c.Rock, o.s.Rows[len(o.s.Rows)-1].Deficit)
		a, b := c.Rock-r.Intn(deficit+1), c.Rock-r.Intn(deficit+1)
		if r.Intn(4) > 0 {
			a, b = min(a, b), max(a, b)
		}
		o.low, o.rest = append(o.low, a), append(o.rest, b)
		c.Gate = span(min(a, b)+r.Intn(40)/39, max(a, b)-r.Intn(40)/39)
		c.Gate.High = max(c.Gate.Low, c.Gate.High)
		c.Change = max(a-b, b-a) - r.Intn(12)/11
		c.Change = max(0, c.Change)
	}
	for range days {
		o.needs = append(o.needs, r.Intn(n+1))
	}
	return o
}

// somePlan returns a plan that may hold or not.
func (o order) somePlan(r *rand.Rand) [][]int {
	var plan [][]int
	for _, need := range o.needs {
		set := r.Perm(len(o.s.Caverns))[:need]
		slices.Sort(set)
		plan = append(plan, set)
	}
	return plan
}

// tighten changes the limits of volumes, walls and houses so that a plan just keeps them; it returns false if they cannot be so.
func (o *order) tighten(t *testing.T, plan [][]int) bool {
	t.Helper()
	l := begin(t, o.s)
	for _, d := range o.days(plan) {
		next, e := creep.Move(o.s, l, d)
		if e != api.OK {
			return false
		}
		l = next
	}
	wall := api.CreepWall
	for i, c := range o.s.Caverns {
		o.s.Caverns[i].Floor = l[i].Volume.Low
		for j, d := range o.s.Caverns {
			if i != j {
				wall = min(wall, distance(c, d)-l[i].Radius.High-l[j].Radius.High)
			}
		}
	}
	o.s.Wall = wall
	for k, h := range o.s.Houses {
		s, _ := creep.Sunk(o.s, l, h.X, h.Y)
		o.s.Houses[k].Most = s.High
	}
	return creep.Check(o.s) == api.OK
}

// loosen changes limits by a little, to either side.
func (o *order) loosen(r *rand.Rand) {
	some := func(n int) int { return max(0, n+r.Intn(2)*(r.Intn(21)-10)) }
	for i := range o.s.Caverns {
		o.s.Caverns[i].Floor = some(o.s.Caverns[i].Floor)
	}
	for k := range o.s.Houses {
		o.s.Houses[k].Most = some(o.s.Houses[k].Most)
	}
	o.s.Wall = some(o.s.Wall)
}

// P2.6: of all plans, the first one that holds is returned.
func TestFirstPlan(t *testing.T) {
	r := rand.New(rand.NewSource(9))
	found, later := 0, 0
	for done := 0; done < 5000; {
		n := 1 + r.Intn(5)
		o := someOrder(r, n, 1+r.Intn(min(5, 8-n)))
		if !o.tighten(t, o.somePlan(r)) {
			continue
		}
		o.loosen(r)
		if creep.Check(o.s) != api.OK {
			continue
		}
		done++
		plan, e := o.plan()
		want, ok := o.firstPlan(t, nil)
		if ok != (e == api.OK) || !ok && e != api.ErrNone || !equalPlans(plan, want) {
			t.Fatal(o, plan, e, want, ok)
		}
		if ok {
			found++
			var first [][]int
			for _, need := range o.needs {
				first = append(first, sets(n, need)[0])
			}
			if !equalPlans(plan, first) {
				later++
			}
		}
	}
	if found < 1000 || found > 4000 || later < 300 {
		t.Error("the orders are not mixed", found, later)
	}
}

// fickle asks for a plan of two caverns, of which one must be emptied on each day: the first has so little volume and loses so much of it that the order of its days matters to the house above it; that of the second, which is great, does not, but it limits how often that one is emptied.
func fickle(r *rand.Rand) order {
	slow := someSpan(r, 60000)
	o := order{low: []int{0, 0}, rest: []int{10, 10}, needs: slices.Repeat([]int{1}, 2+r.Intn(4))}
	o.s.Rows = []api.CreepRow{{Rate: slow}, {Deficit: 10, Rate: risingSpan(r, slow, 40000, api.CreepRate)}}
	o.s.Heats = []api.CreepHeat{{Factor: exactly(1000 + r.Intn(4000))}}
	o.s.Rings = []api.CreepRing{{Share: exactly(api.CreepShare)}}
	o.s.Houses = []api.CreepHouse{{Most: api.CreepShare}}
	for i, volume := range []int{5 + r.Intn(60), 1000000} {
		o.s.Caverns = append(o.s.Caverns, api.CreepCavern{X: 100 * i, Rock: 10, Volume: exactly(volume), Gate: span(0, 10), Change: 10})
	}
	return o
}

// P2.6: the one plan is found whose order is the best for a cavern.
func TestOrderOfDays(t *testing.T) {
	r := rand.New(rand.NewSource(14))
	later := 0
	for range 1500 {
		o := fickle(r)
		days := len(o.needs)
		times := 1 + r.Intn(days-1)
		var first [][]int
		floor, most := api.CreepVolume, api.CreepShare
		for resting := range 1 << days {
			if bits.OnesCount(uint(resting)) != days-times {
				continue
			}
			var plan [][]int
			for k := range days {
				plan = append(plan, []int{resting >> k & 1})
			}
			if first == nil || slices.CompareFunc(plan, first, slices.Compare) < 0 {
				first = plan
			}
			just := o
			just.s = copySite(o.s)
			if !just.tighten(t, plan) {
				t.Fatal(just, plan)
			}
			floor, most = min(floor, just.s.Caverns[1].Floor), min(most, just.s.Houses[0].Most)
		}
		o.s.Caverns[1].Floor, o.s.Houses[0].Most = floor, most
		plan, e := o.plan()
		want, ok := o.firstPlan(t, nil)
		if ok != (e == api.OK) || !equalPlans(plan, want) {
			t.Fatal(o, plan, e, want, ok)
		}
		if ok && !equalPlans(plan, first) {
			later++
		}
	}
	if later < 300 {
		t.Error("the orders are not mixed", later)
	}
}

// row returns a site of five caverns that are emptied to 6000 and rest at 15000.
func row(r *rand.Rand, days, need int) order {
	o := order{warmth: span(3000, 3150)}
	o.s.Rows = []api.CreepRow{{Rate: span(0, 10)}, {Deficit: 5000, Rate: span(10, 50), Spall: span(0, 10)}, {Deficit: 14000, Rate: span(100, 200), Spall: span(10, 30)}}
	o.s.Heats = example().Heats
	o.s.Rings = []api.CreepRing{{Away: 100, Share: span(500, 1000)}, {Away: 300, Share: span(100, 250)}}
	for i := range api.CreepCaverns {
		volume := 500000 + r.Intn(400000)
		o.s.Caverns = append(o.s.Caverns, api.CreepCavern{X: 110 * i, Y: r.Intn(100), Radius: span(20000, 20000+r.Intn(5000)), Volume: span(volume, volume+r.Intn(50000)), Rock: 20000, Gate: span(0, 20000), Change: 20000})
		o.low, o.rest = append(o.low, 6000), append(o.rest, 15000)
	}
	for range 2 {
		o.s.Houses = append(o.s.Houses, api.CreepHouse{X: r.Intn(450), Y: r.Intn(100)})
	}
	for range days {
		o.needs = append(o.needs, need)
	}
	return o
}

// P2.6: of many days, too, no plan that somebody proposes comes before the one that is returned, and that one holds.
func TestProposedPlans(t *testing.T) {
	r := rand.New(rand.NewSource(10))
	for k := range 12 {
		o := row(r, api.CreepDays, 1+k%4)
		proposed := o.somePlan(r)
		if !o.tighten(t, proposed) {
			t.Fatal(o)
		}
		for i := range o.s.Caverns {
			o.s.Caverns[i].Floor -= 100
		}
		for i := range o.s.Houses {
			o.s.Houses[i].Most++
		}
		o.compare(t, proposed)
	}
	for done := 0; done < 100; {
		o := someOrder(r, 2+r.Intn(4), 5+r.Intn(api.CreepDays-4))
		proposed := o.somePlan(r)
		if o.tighten(t, proposed) && o.holds(t, proposed) {
			o.compare(t, proposed)
			done++
		}
	}
}

// compare compares the plan that is returned with one that holds.
func (o order) compare(t *testing.T, proposed [][]int) {
	t.Helper()
	if plan, e := o.plan(); e != api.OK || !o.meets(plan) || !o.holds(t, plan) || !o.holds(t, proposed) || slices.CompareFunc(plan, proposed, slices.Compare) > 0 {
		t.Fatal(o, proposed, plan, e)
	}
}

// square returns an order for two caverns on each of so many days, with a square of caverns and one far away, that lose 200 cubic metres and 30 millimetres on a day on which they are emptied, and nothing on others.
func square(days int) order {
	o := row(rand.New(rand.NewSource(11)), days, 2)
	o.s.Rows[0].Rate, o.s.Houses, o.warmth = exactly(0), nil, exactly(3000)
	places := [][2]int{{0, 0}, {100, 0}, {0, 100}, {100, 100}, {3000, 0}}
	for i := range o.s.Caverns {
		c := &o.s.Caverns[i]
		c.X, c.Y, c.Radius, c.Volume = places[i][0], places[i][1], exactly(20000), exactly(1000000)
		o.rest[i] = 20000
	}
	return o
}

// P2.6, P0.1: that no plan holds is found even if very many nearly do: 120 times a cavern must be emptied, and 119 times are possible; and one time more is enough.
func TestNoPlanOfManyDays(t *testing.T) {
	for name, x := range map[string]struct{ change, more func(*order) }{
		"volumes": {func(o *order) {
			for i := range o.s.Caverns {
				o.s.Caverns[i].Floor = 1000000 - 24*200
			}
			o.s.Caverns[4].Floor = 1000000 - 23*200
		}, func(o *order) { o.s.Caverns[4].Floor = 1000000 - 24*200 }},
		// 59 times for each two side by side, and once for the last one
		"walls": {func(o *order) {
			o.s.Wall = 60000 - 59*30
			o.s.Caverns[4].Floor = 1000000 - 200
		}, func(o *order) { o.s.Caverns[4].Floor = 1000000 - 400 }},
		// a millimetre for each time
		"ground": {func(o *order) {
			o.s.Rings = []api.CreepRing{{Away: 10000, Share: span(0, 5000)}}
			o.s.Houses = []api.CreepHouse{{Most: 119}}
		}, func(o *order) { o.s.Houses[0].Most = 120 }},
	} {
		o := square(api.CreepDays)
		x.change(&o)
		if plan, e := o.plan(); e != api.ErrNone || len(plan) > 0 {
			t.Error(name, plan, e)
		}
		x.more(&o)
		if plan, e := o.plan(); e != api.OK || !o.meets(plan) || !o.holds(t, plan) {
			t.Error(name, plan, e)
		}
	}
}
