package leach_test

import (
	"math/rand"
	"slices"
	"testing"

	"saltdome/api"
	"saltdome/leach"
)

// P1.1
func TestCheck(t *testing.T) {
	c, _ := greatest()
	least := api.LeachCavern{Hold: 1, Slices: []api.LeachSlice{{Open: 1000}}}
	for _, c := range []api.LeachCavern{example(), c, least} {
		if e := leach.Check(c); e != api.OK {
			t.Error(c, e)
		}
	}
	for _, b := range badCaverns() {
		c := example()
		b.change(&c)
		if e := leach.Check(c); e != api.ErrArg {
			t.Error(b.name, e)
		}
		expect(t, b.name, errorsOf(c, stageA()), api.ErrArg)
		if s, e := leach.Print(c); s != "" || e != api.ErrArg {
			t.Error(b.name, s, e)
		}
	}
	expect(t, "no fault", errorsOf(example(), stageA()), api.OK)
	for name, s := range badStages() {
		expect(t, name, errorsOf(example(), s), api.ErrArg)
	}
	expect(t, "one slice only", errorsOf(least, api.LeachStage{Water: 1}), api.ErrArg)
}

// P1.1
func TestRates(t *testing.T) {
	c := example()
	full := example()
	full.Hold = 45
	for i, x := range []struct {
		c    api.LeachCavern
		s    api.LeachStage
		want []api.Span
	}{
		{c, stageA(), []api.Span{span(20, 40), span(30, 50), span(0, 0)}},
		{c, stageB(), []api.Span{span(0, 30), span(30, 50), span(40, 60)}},
		{full, stageA(), []api.Span{span(20, 40), span(5, 25), span(0, 0)}},
		{full, stageB(), []api.Span{span(0, 0), span(0, 5), span(40, 45)}},
		{full, api.LeachStage{Water: 1000000, In: 1, Out: 2}, []api.Span{span(0, 0), span(30, 45), span(0, 15)}},
	} {
		if l, e := leach.Rates(x.c, x.s); e != api.OK || !slices.Equal(l, x.want) {
			t.Error(i, l, e)
		}
	}
}

// P1.1: both bounds are true in some truth, and nothing else is true.
func TestRatesAreTrue(t *testing.T) {
	r := rand.New(rand.NewSource(11))
	for range 400 {
		c := small(r, 2+r.Intn(4))
		s := smallStages(r, len(c.Slices), 1)[0]
		all := make([]seen, len(c.Slices))
		for x := range truths(c, 1) {
			for i, litres := range taken(c, s, x.Rates[0]) {
				all[i].see(litres / s.Water)
			}
		}
		l, e := leach.Rates(c, s)
		if e != api.OK || len(l) != len(all) {
			t.Fatal(c, s, l, e)
		}
		for i := range all {
			if l[i] != all[i].Span {
				t.Fatal(c, s, i, l[i], all[i])
			}
		}
	}
}

// P1.2
func TestAfter(t *testing.T) {
	c := example()
	x, e := leach.After(c, []api.LeachStage{stageA()})
	if e != api.OK || !slices.Equal(x.Salt, []api.Span{span(200, 400), span(300, 500), span(0, 0)}) ||
		!slices.Equal(x.Volumes, []api.Span{span(1140000, 1480000), span(1330000, 1550000), span(500000, 600000)}) || x.Sump != span(35000, 65000) {
		t.Error(x, e)
	}
	x, e = leach.After(c, []api.LeachStage{stageA(), stageB()})
	if e != api.OK || !slices.Equal(x.Salt, []api.Span{span(200, 700), span(600, 1000), span(400, 600)}) || x.Sump != span(55000, 110000) {
		t.Error(x, e)
	}
	for _, none := range [][]api.LeachStage{nil, {}} {
		x, e = leach.After(c, none)
		if e != api.OK || !slices.Equal(x.Salt, make([]api.Span, 3)) || x.Sump != span(0, 0) ||
			!slices.Equal(x.Volumes, []api.Span{span(900000, 1000000), span(1000000, 1000000), span(500000, 600000)}) {
			t.Error(x, e)
		}
	}
}

// P1.2: what a slice above takes is not left for the one below, so the sump is nearer than what its parts could be.
func TestBound(t *testing.T) {
	c := example()
	for i, x := range []struct {
		stages  []api.LeachStage
		weights []int
		sump    int
		want    api.Span
	}{
		{[]api.LeachStage{stageB()}, []int{0, 0, 0}, 1, span(20000, 45000)},
		{[]api.LeachStage{stageB()}, []int{0, 0, 0}, -1, span(-45000, -20000)},
		{[]api.LeachStage{stageB()}, []int{0, 1, 0}, 0, span(1330000, 1550000)},
		{[]api.LeachStage{stageB()}, []int{0, 0, -2}, 0, span(-2400000, -1800000)},
		{[]api.LeachStage{stageB()}, []int{0, 0, 0}, 0, span(0, 0)},
		{nil, []int{1, 1, 1}, 1000, span(2400000, 2600000)},
		{nil, []int{-1000, 0, 1000}, 0, span(-500000000, -300000000)},
	} {
		if s, e := leach.Bound(c, x.stages, x.weights, x.sump); e != api.OK || s != x.want {
			t.Error(i, s, e)
		}
	}
	for i, x := range []struct {
		weights []int
		sump    int
	}{
		{nil, 0}, {[]int{0, 0}, 0}, {[]int{0, 0, 0, 0}, 0}, {[]int{1001, 0, 0}, 0}, {[]int{0, 0, -1001}, 0}, {[]int{0, 0, 0}, 1001}, {[]int{0, 0, 0}, -1001},
	} {
		if s, e := leach.Bound(c, nil, x.weights, x.sump); e != api.ErrArg || s != span(0, 0) {
			t.Error(i, s, e)
		}
	}
}

// P1.2: the bounds are the least and the greatest value of all truths.
func TestBoundsAreTrue(t *testing.T) {
	r := rand.New(rand.NewSource(12))
	for i := range 500 {
		n, k := 2+i%2, i%3
		if i%5 == 0 {
			n, k = 4+r.Intn(2), 1
		}
		c := small(r, n)
		compareBounds(t, r, c, smallStages(r, n, k))
	}
}

func compareBounds(t *testing.T, r *rand.Rand, c api.LeachCavern, stages []api.LeachStage) {
	t.Helper()
	n := len(c.Slices)
	weights, weight := make([]int, n), 0
	for i := range weights {
		weights[i] = r.Intn(9) - 4
	}
	if r.Intn(2) == 0 {
		weight = r.Intn(9) - 4
	}
	volumes := make([]seen, n)
	var sumps, measures seen
	for x := range truths(c, len(stages)) {
		l, sump := truly(c, stages, x)
		measure := weight * sump
		for i, v := range l {
			volumes[i].see(v)
			measure += weights[i] * v
		}
		sumps.see(sump)
		measures.see(measure)
	}
	x, e := leach.After(c, stages)
	if e != api.OK || x.Sump != sumps.Span || len(x.Volumes) != n || len(x.Salt) != n {
		t.Fatal(c, stages, x, sumps, e)
	}
	for i, s := range c.Slices {
		salt := span((volumes[i].Low-s.Volume.Low)/s.Open, (volumes[i].High-s.Volume.High)/s.Open)
		if x.Volumes[i] != volumes[i].Span || x.Salt[i] != salt {
			t.Fatal(c, stages, x, volumes, i)
		}
	}
	if s, e := leach.Bound(c, stages, weights, weight); e != api.OK || s != measures.Span {
		t.Fatal(c, stages, weights, weight, s, measures, e)
	}
}

// P1.2: for great caverns, all that a cubic metre of water can do is found slice by slice.
func TestGreatBounds(t *testing.T) {
	r := rand.New(rand.NewSource(13))
	for range 300 {
		c := api.LeachCavern{Hold: 1 + r.Intn(api.LeachRate)}
		weights := make([]int, 2+r.Intn(api.LeachSlices-1))
		for i := range weights {
			weights[i] = r.Intn(2001) - 1000
			low := r.Intn(100)
			c.Slices = append(c.Slices, api.LeachSlice{Volume: span(5, 9), Open: 1000 + r.Intn(2001), Fall: r.Intn(1000), Rate: span(low, low+r.Intn(200))})
		}
		stages := smallStages(r, len(weights), 1)
		stages[0].Water = 1 + r.Intn(api.LeachWater)
		sump := r.Intn(2001) - 1000
		least, most := slowly(c, stages[0], weights, sump, -1), slowly(c, stages[0], weights, sump, 1)
		if s, e := leach.Bound(c, stages, weights, sump); e != api.OK || s != span(-least, most) {
			t.Fatal(c, stages, weights, sump, s, -least, most, e)
		}
	}
}

// slowly returns the greatest value of a measure, times the sign, behind a stage.
func slowly(c api.LeachCavern, s api.LeachStage, weights []int, sump, sign int) int {
	step := 1
	if s.Out < s.In {
		step = -1
	}
	best := make([]int, c.Hold+1) // by what the water holds when it comes to a slice
	for i := s.Out; i != s.In-step; i -= step {
		x := c.Slices[i]
		ahead := make([]int, c.Hold+1)
		for held := range ahead {
			for rate := x.Rate.Low; rate <= x.Rate.High; rate++ {
				litres := min(rate, c.Hold-held)
				v := sign*litres*(weights[i]*x.Open+sump*x.Fall) + best[held+litres]
				if rate == x.Rate.Low || v > ahead[held] {
					ahead[held] = v
				}
			}
		}
		best = ahead
	}
	v := best[0] * s.Water
	for i, x := range c.Slices {
		v += max(sign*weights[i]*x.Volume.Low, sign*weights[i]*x.Volume.High)
	}
	return v
}

// P1.2: the greatest numbers of all are still right.
func TestGreatestBound(t *testing.T) {
	c, s := greatest()
	weights := make([]int, api.LeachSlices)
	for i := range weights {
		weights[i] = api.LeachWeight
	}
	stages := slices.Repeat([]api.LeachStage{s}, api.LeachStages)
	salt := api.LeachStages * api.LeachWater * api.LeachRate
	want := span(0, api.LeachWeight*(api.LeachSlices*api.LeachVolume+salt*(2*api.LeachOpen-1)))
	if b, e := leach.Bound(c, stages, weights, api.LeachWeight); e != api.OK || b != want {
		t.Error(b, want, e)
	}
	if x, e := leach.After(c, stages); e != api.OK || x.Salt[9] != span(0, salt) || x.Sump != span(0, salt*(api.LeachOpen-1)) {
		t.Error(x, e)
	}
}

// Errors of P1.1 to P1.6: too much is found first, whatever else is wrong.
func TestTooMany(t *testing.T) {
	c := example()
	stages := slices.Repeat([]api.LeachStage{stageA()}, api.LeachStages)
	truth := api.LeachTruth{Volumes: []int{900000, 1000000, 500000}, Rates: slices.Repeat([][]int{{20, 30, 40}}, api.LeachStages)}
	call := func(c api.LeachCavern, stages []api.LeachStage) map[string]api.Errno {
		l := map[string]api.Errno{}
		_, l["After"] = leach.After(c, stages)
		_, l["Bound"] = leach.Bound(c, stages, make([]int, 3), 0)
		_, l["Play"] = leach.Play(c, stages, truth)
		_, _, _, l["Fault"] = leach.Fault(c, stages)
		return l
	}
	expect(t, "eight stages", call(c, stages), api.OK)
	expect(t, "nine stages", call(c, append(stages, stageA())), api.ErrLong)
	expect(t, "nine bad stages of no cavern", call(api.LeachCavern{}, make([]api.LeachStage, 9)), api.ErrLong)
	menu := func(c api.LeachCavern, menu []api.LeachStage) map[string]api.Errno {
		l := map[string]api.Errno{}
		_, l["Plan"] = leach.Plan(c, menu, make([]int, 3))
		_, l["Least"] = leach.Least(c, menu, make([]int, 3))
		return l
	}
	expect(t, "a menu of six", menu(c, stages[:6]), api.OK)
	expect(t, "a menu of seven", menu(c, stages[:7]), api.ErrLong)
	expect(t, "a bad menu of seven for no cavern", menu(api.LeachCavern{}, make([]api.LeachStage, 7)), api.ErrLong)
	expect(t, "no menu", menu(c, nil), api.ErrArg)
}
