package leach_test

import (
	"math/rand"
	"slices"
	"testing"

	"saltdome/api"
	"saltdome/leach"
)

// fault is what Fault returns.
type fault struct {
	stage int
	rule  api.LeachRule
	of    int
}

func noFault() fault { return fault{-1, api.LeachFine, 0} }

func faultOf(t *testing.T, c api.LeachCavern, stages []api.LeachStage) fault {
	t.Helper()
	stage, rule, of, e := leach.Fault(c, stages)
	if e != api.OK {
		t.Fatal(c, stages, e)
	}
	return fault{stage, rule, of}
}

// P1.5
func TestFault(t *testing.T) {
	type change func(*api.LeachCavern, []api.LeachStage)
	for name, x := range map[string]struct {
		change change
		want   fault
	}{
		"a slice gets too wide":         {func(*api.LeachCavern, []api.LeachStage) {}, fault{1, api.LeachWide, 0}},
		"a slice is just so wide":       {func(c *api.LeachCavern, l []api.LeachStage) { c.Slices[0].Most = 1840000 }, noFault()},
		"a slice is a bit too wide":     {func(c *api.LeachCavern, l []api.LeachStage) { c.Slices[0].Most = 1839999 }, fault{1, api.LeachWide, 0}},
		"just enough oil":               {func(c *api.LeachCavern, l []api.LeachStage) { c.Oil = 600000 }, fault{1, api.LeachWide, 0}},
		"too little oil":                {func(c *api.LeachCavern, l []api.LeachStage) { c.Oil = 599999 }, fault{0, api.LeachOiled, 2}},
		"no oil for no slices":          {func(c *api.LeachCavern, l []api.LeachStage) { c.Oil = 0; l[0].Blanket = 3 }, fault{1, api.LeachWide, 0}},
		"water out at the blanket":      {func(c *api.LeachCavern, l []api.LeachStage) { l[0].Blanket = 1 }, fault{0, api.LeachRoof, 1}},
		"water above the blanket":       {func(c *api.LeachCavern, l []api.LeachStage) { l[0].Blanket = 0 }, fault{0, api.LeachRoof, 1}},
		"water in at the blanket":       {func(c *api.LeachCavern, l []api.LeachStage) { l[1].Blanket = 2 }, fault{1, api.LeachRoof, 2}},
		"the roof comes ahead of oil":   {func(c *api.LeachCavern, l []api.LeachStage) { l[0].Blanket = 0; c.Oil = 0 }, fault{0, api.LeachRoof, 1}},
		"oil comes ahead of width":      {func(c *api.LeachCavern, l []api.LeachStage) { c.Oil = 0; c.Slices[0].Most = 0 }, fault{0, api.LeachOiled, 2}},
		"the first one is too wide":     {func(c *api.LeachCavern, l []api.LeachStage) { c.Slices[1].Most = 0; c.Slices[2].Most = 0 }, fault{0, api.LeachWide, 1}},
		"too wide off the path":         {func(c *api.LeachCavern, l []api.LeachStage) { c.Slices[2].Most = 599999 }, fault{0, api.LeachWide, 2}},
		"oil is needed after a stage":   {func(c *api.LeachCavern, l []api.LeachStage) { l[0], l[1] = stageB(), stageA() }, fault{1, api.LeachOiled, 2}},
		"the oil a stage needs is told": {func(c *api.LeachCavern, l []api.LeachStage) { l[0], l[1] = stageB(), stageA(); c.Oil = 1200000 }, fault{1, api.LeachWide, 0}},
	} {
		c, l := example(), []api.LeachStage{stageA(), stageB()}
		x.change(&c, l)
		if got := faultOf(t, c, l); got != x.want {
			t.Error(name, got)
		}
	}
	if got := faultOf(t, example(), []api.LeachStage{stageA()}); got != noFault() {
		t.Error(got)
	}
	none := example()
	none.Slices[0].Most = 0
	if got := faultOf(t, none, nil); got != noFault() {
		t.Error(got)
	}
}

// P1.5: the sump counts with the volumes together, ahead of a stage and behind it, up to the lower string.
func TestBuried(t *testing.T) {
	c := api.LeachCavern{Hold: 50, Slices: []api.LeachSlice{
		{Volume: span(11999, 20000), Open: 1000, Most: 90000},
		{Open: 1500, Fall: 300, Rate: span(30, 40), Most: 90000},
		{Open: 1000, Most: 90000},
	}}
	low := api.LeachStage{Water: 1, In: 0, Out: 1, Blanket: 3}
	high := api.LeachStage{Water: 1, In: 2, Out: 1, Blanket: 3}
	if got := faultOf(t, c, []api.LeachStage{low}); got != (fault{0, api.LeachBuried, 0}) {
		t.Error(got)
	}
	// 45000 of the slice 1 are over the sump: the string there is free, until one is let down
	if got := faultOf(t, c, []api.LeachStage{high, low}); got != (fault{1, api.LeachBuried, 0}) {
		t.Error(got)
	}
	c.Slices[0].Volume.Low = 12000
	if got := faultOf(t, c, []api.LeachStage{low}); got != noFault() {
		t.Error(got)
	}
	if got := faultOf(t, c, []api.LeachStage{low, low}); got != (fault{1, api.LeachBuried, 0}) {
		t.Error(got)
	}
	// ahead of the second stage the string is buried, and not behind it, where the slice 0 has grown by 30000
	c = api.LeachCavern{Hold: 100, Slices: []api.LeachSlice{
		{Open: 1000, Rate: span(30, 30), Most: 90000},
		{Volume: span(9000, 9000), Open: 1500, Fall: 300, Rate: span(40, 40), Most: 900000},
		{Open: 1000, Most: 90000},
	}}
	for volume, want := range map[int]fault{0: {1, api.LeachBuried, 0}, 11999: {1, api.LeachBuried, 0}, 12000: noFault()} {
		c.Slices[0].Volume = span(volume, volume)
		if got := faultOf(t, c, []api.LeachStage{high, low}); got != want {
			t.Error(volume, got)
		}
		if got := faultOf(t, c, []api.LeachStage{high, {Water: 1, In: 1, Out: 2, Blanket: 3}}); got != noFault() {
			t.Error(volume, got)
		}
	}
	// where nothing is leached yet, nothing can bury a string
	c.Slices[0].Volume, c.Slices[1].Volume = span(0, 0), span(0, 0)
	if got := faultOf(t, c, []api.LeachStage{low}); got != noFault() {
		t.Error(got)
	}
}

// slowFault finds the first fault in all truths, one by one.
func slowFault(c api.LeachCavern, stages []api.LeachStage) fault {
	for k, s := range stages {
		low, top := min(s.In, s.Out), max(s.In, s.Out)
		if s.In >= s.Blanket || s.Out >= s.Blanket {
			return fault{k, api.LeachRoof, top}
		}
		buried, oiled, wide := false, false, len(c.Slices)
		for x := range truths(c, k+1) {
			ahead, sump := truly(c, stages[:k], x)
			behind, more := truly(c, stages[:k+1], x)
			buried = buried || sump > total(ahead[:low+1]) || more > total(behind[:low+1])
			oiled = oiled || total(ahead[s.Blanket:]) > c.Oil
			for i, v := range behind {
				if v > c.Slices[i].Most {
					wide = min(wide, i)
				}
			}
		}
		switch {
		case buried:
			return fault{k, api.LeachBuried, low}
		case oiled:
			return fault{k, api.LeachOiled, s.Blanket}
		case wide < len(c.Slices):
			return fault{k, api.LeachWide, wide}
		}
	}
	return noFault()
}

func total(l []int) int {
	all := 0
	for _, n := range l {
		all += n
	}
	return all
}

// P1.5, P0.1 (salt): whatever is true, what is told is the first thing that can be wrong.
func TestFaultsAreTrue(t *testing.T) {
	r := rand.New(rand.NewSource(31))
	count := map[fault]int{}
	for i := range 1500 {
		c := small(r, 2+i%2)
		stages := smallStages(r, len(c.Slices), 1+i%2)
		want := slowFault(c, stages)
		if got := faultOf(t, c, stages); got != want {
			t.Fatal(c, stages, got, want)
		}
		count[fault{want.stage, want.rule, 0}]++
	}
	for rule := api.LeachRoof; rule <= api.LeachWide; rule++ {
		if count[fault{0, rule, 0}] == 0 || count[fault{1, rule, 0}] == 0 {
			t.Error("the cases have no such fault:", rule, count)
		}
	}
	if count[noFault()] == 0 {
		t.Error("the cases have faults only")
	}
}

// P1.6
func TestPlan(t *testing.T) {
	menu := []api.LeachStage{stageA(), stageB()}
	wider := example()
	wider.Slices[0].Most = 1840000
	much, dear := stageA(), stageA()
	much.Water, dear.Water = 1000000, 11
	for i, x := range []struct {
		c          api.LeachCavern
		menu       []api.LeachStage
		want, plan []int
		e          api.Errno
	}{
		{example(), menu, []int{1100000, 1300000, 0}, []int{0}, api.OK},
		{example(), menu, []int{1140000, 1330000, 500000}, []int{0}, api.OK},
		{example(), menu, []int{1140001, 0, 0}, nil, api.ErrNone},
		{example(), menu, []int{900000, 1300000, 800000}, []int{1}, api.OK},
		{example(), menu, []int{1100000, 1300000, 800000}, nil, api.ErrNone},
		{wider, menu, []int{1100000, 1300000, 800000}, []int{0, 1}, api.OK},
		// nothing is missing, and no stage is needed
		{example(), menu, []int{900000, 1000000, 500000}, nil, api.OK},
		{example(), []api.LeachStage{much}, []int{0, 0, 0}, nil, api.OK},
		// fewest stages, then the least water, then the first in order
		{wider, []api.LeachStage{dear, stageA()}, []int{1100000, 0, 0}, []int{1}, api.OK},
		{wider, []api.LeachStage{stageA(), stageA()}, []int{1100000, 0, 0}, []int{0}, api.OK},
		{example(), []api.LeachStage{much, stageA()}, []int{1100000, 0, 0}, []int{1}, api.OK},
		// what is wanted is as defined, or is not
		{example(), menu, nil, nil, api.ErrArg},
		{example(), menu, []int{0, 0}, nil, api.ErrArg},
		{example(), menu, []int{0, 0, 0, 0}, nil, api.ErrArg},
		{example(), menu, []int{0, 0, -1}, nil, api.ErrArg},
		{example(), menu, []int{0, 0, api.LeachVolume}, nil, api.ErrNone},
		{example(), menu, []int{api.LeachVolume + 1, 0, 0}, nil, api.ErrArg},
		{example(), []api.LeachStage{stageA(), {}}, []int{0, 0, 0}, nil, api.ErrArg},
	} {
		if p, e := leach.Plan(x.c, x.menu, x.want); e != x.e || !slices.Equal(p, x.plan) {
			t.Error(i, p, e)
		}
	}
}

// P1.6: five stages are a plan, and six are none.
func TestLongPlan(t *testing.T) {
	c := api.LeachCavern{Hold: 10, Slices: []api.LeachSlice{
		{Volume: span(1000, 1000), Open: 1000, Rate: span(10, 10), Most: api.LeachVolume},
		{Volume: span(1000, 1000), Open: 1000, Rate: span(10, 10), Most: api.LeachVolume},
	}}
	menu := []api.LeachStage{{Water: 1, In: 0, Out: 1, Blanket: 2}, {Water: 1, In: 1, Out: 0, Blanket: 2}}
	if p, e := leach.Plan(c, menu, []int{31000, 21000}); e != api.OK || !slices.Equal(p, []int{0, 0, 0, 1, 1}) {
		t.Error(p, e)
	}
	if p, e := leach.Plan(c, menu, []int{31000, 31000}); e != api.ErrNone || p != nil {
		t.Error(p, e)
	}
}

// slowPlan returns the best plan of all plans, one by one.
func slowPlan(c api.LeachCavern, menu []api.LeachStage, want []int) ([]int, bool) {
	for length := range api.LeachPlan + 1 {
		var best []int
		least := -1
		spans := slices.Repeat([]api.Span{span(0, len(menu)-1)}, length)
		for l := range choices(spans) {
			plan := slices.Clone(l)
			slices.Reverse(plan) // the first number of a choice changes first
			var stages []api.LeachStage
			water := 0
			for _, i := range plan {
				stages = append(stages, menu[i])
				water += menu[i].Water
			}
			if (least < 0 || water < least) && makes(c, stages, want) {
				best, least = plan, water
			}
		}
		if least >= 0 {
			return best, true
		}
	}
	return nil, false
}

// makes reports whether stages surely make a shape.
func makes(c api.LeachCavern, stages []api.LeachStage, want []int) bool {
	if k, _, _, e := leach.Fault(c, stages); e != api.OK || k != -1 {
		return false
	}
	x, _ := leach.After(c, stages)
	for i, n := range want {
		if x.Volumes[i].Low < n {
			return false
		}
	}
	return true
}

// P1.6: no plan is better, and none has fewer stages than the least number.
func TestPlansAreBest(t *testing.T) {
	r := rand.New(rand.NewSource(32))
	lengths := map[int]int{}
	for range 300 {
		c := small(r, 2+r.Intn(2))
		c.Oil = 100000
		menu := smallStages(r, len(c.Slices), 1+r.Intn(3))
		want := make([]int, len(c.Slices))
		for i, s := range c.Slices {
			c.Slices[i].Fall = r.Intn(1 + s.Fall/10)
			c.Slices[i].Most = 20000 + r.Intn(60000)
			want[i] = max(0, s.Volume.Low+r.Intn(20000)-8000)
		}
		best, found := slowPlan(c, menu, want)
		p, e := leach.Plan(c, menu, want)
		if found != (e == api.OK) || !found && e != api.ErrNone || !slices.Equal(p, best) {
			t.Fatal(c, menu, want, p, e, best)
		}
		if found {
			lengths[len(p)]++
			if n, e := leach.Least(c, menu, want); e != api.OK || n > len(p) {
				t.Fatal(c, menu, want, p, n, e)
			}
		}
	}
	if lengths[0] == 0 || lengths[1] == 0 || lengths[2] == 0 || lengths[3] == 0 {
		t.Error("the cases have no such plans:", lengths)
	}
}

// P1.6: the greatest menu for the greatest cavern.
func TestGreatestPlan(t *testing.T) {
	c, s := greatest()
	for i := range c.Slices {
		c.Slices[i].Volume = span(1000000, 1000000)
		c.Slices[i].Fall = 0
		c.Slices[i].Rate = span(1, 40)
	}
	menu := slices.Repeat([]api.LeachStage{s}, api.LeachMenu)
	for i := range menu {
		menu[i].Water = 1000 + i
	}
	want := slices.Repeat([]int{1000000}, api.LeachSlices)
	want[0] += (5*1004 + 1) * 3000
	if p, e := leach.Plan(c, menu, want); e != api.OK || !slices.Equal(p, []int{1, 5, 5, 5, 5}) {
		t.Error(p, e)
	}
	want[0] = 1000001 + 5*1005*3000
	if p, e := leach.Plan(c, menu, want); e != api.ErrNone || p != nil {
		t.Error(p, e)
	}
}

// P1.6
func TestLeast(t *testing.T) {
	menu := []api.LeachStage{stageA(), stageB()}
	for i, x := range []struct {
		menu []api.LeachStage
		want []int
		n    int
		e    api.Errno
	}{
		{menu, []int{1400000, 0, 0}, 3, api.OK},
		{menu, []int{1140000, 1330000, 900000}, 1, api.OK},
		{menu, []int{1140001, 0, 0}, 2, api.OK},
		{menu, []int{0, 1330001, 0}, 2, api.OK},
		// the greatest one of all slices: 1, 2, 3 and then 3, 2, 1
		{menu, []int{900001, 1400000, 1300001}, 3, api.OK},
		{menu, []int{1400000, 1400000, 500001}, 3, api.OK},
		{menu, []int{0, 0, 0}, 0, api.OK},
		{menu, []int{900000, 1000000, 500000}, 0, api.OK},
		{menu[1:], []int{900000, 0, 0}, 0, api.OK},
		{menu[1:], []int{1000000, 0, 0}, 0, api.ErrNone},
		{menu[:1], []int{1400000, 0, 500001}, 0, api.ErrNone},
		{menu[1:], []int{900001, 0, 900000}, 0, api.ErrNone},
		{menu, []int{api.LeachVolume, 0, 0}, 41666663, api.OK},
		{menu, []int{0, 0}, 0, api.ErrArg},
		{menu, []int{0, -1, 0}, 0, api.ErrArg},
		{menu, []int{0, 0, api.LeachVolume + 1}, 0, api.ErrArg},
		{nil, []int{0, 0, 0}, 0, api.ErrArg},
	} {
		if n, e := leach.Least(example(), x.menu, x.want); e != x.e || n != x.n {
			t.Error(i, n, e)
		}
	}
	// of several stages the one that surely takes most counts, even one with a fault
	more := stageA()
	more.Water, more.Blanket = 20, 0
	if n, e := leach.Least(example(), []api.LeachStage{stageB(), more, stageA()}, []int{1400000, 0, 0}); e != api.OK || n != 2 {
		t.Error(n, e)
	}
}
