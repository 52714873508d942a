package leach_test

import (
	"math/rand"
	"slices"
	"testing"

	"saltdome/api"
	"saltdome/leach"
)

func exampleTruth() api.LeachTruth {
	return api.LeachTruth{Volumes: []int{900000, 1000000, 500000}, Rates: [][]int{{20, 30, 40}}}
}

func equalEnds(x, y api.LeachEnd) bool {
	return slices.Equal(x.Volumes, y.Volumes) && x.Sump == y.Sump && x.Salt == y.Salt && x.Brine == y.Brine && x.Out == y.Out
}

// P1.3
func TestPlay(t *testing.T) {
	c := example()
	volumes := []int{900000, 1000000, 500000}
	for i, x := range []struct {
		stages []api.LeachStage
		rates  [][]int
		want   api.LeachEnd
	}{
		{[]api.LeachStage{stageA()}, [][]int{{20, 30, 40}}, api.LeachEnd{Volumes: []int{1140000, 1330000, 500000}, Sump: 35000, Salt: 500, Brine: 9465000, Out: 446500000}},
		// full water: 60 from the top, 40 from the middle, nothing from the bottom
		{[]api.LeachStage{stageB()}, [][]int{{40, 50, 60}}, api.LeachEnd{Volumes: []int{900000, 1440000, 1100000}, Sump: 20000, Salt: 1000, Brine: 8980000, Out: 898000000}},
		{[]api.LeachStage{stageA(), stageB()}, [][]int{{20, 30, 40}, {40, 50, 60}}, api.LeachEnd{Volumes: []int{1140000, 1770000, 1100000}, Sump: 55000, Salt: 1500, Brine: 18445000, Out: 1344500000}},
		{nil, nil, api.LeachEnd{Volumes: volumes}},
	} {
		if end, e := leach.Play(c, x.stages, api.LeachTruth{Volumes: volumes, Rates: x.rates}); e != api.OK || !equalEnds(end, x.want) {
			t.Error(i, end, e)
		}
	}
}

// P1.3
func TestPlayOfNoTruth(t *testing.T) {
	volumes, rates := []int{900000, 1000000, 500000}, [][]int{{20, 30, 40}}
	for i, x := range []api.LeachTruth{
		{}, {Volumes: volumes}, {Rates: rates},
		{Volumes: volumes[:2], Rates: rates},
		{Volumes: []int{900000, 1000000, 500000, 0}, Rates: rates},
		{Volumes: []int{899999, 1000000, 500000}, Rates: rates},
		{Volumes: []int{900000, 1000000, 600001}, Rates: rates},
		{Volumes: volumes, Rates: [][]int{{20, 30}}},
		{Volumes: volumes, Rates: [][]int{{20, 30, 40, 0}}},
		{Volumes: volumes, Rates: [][]int{nil}},
		{Volumes: volumes, Rates: [][]int{{20, 30, 40}, {20, 30, 40}}},
		{Volumes: volumes, Rates: [][]int{{20, 30, 39}}},
		{Volumes: volumes, Rates: [][]int{{41, 30, 40}}},
	} {
		if end, e := leach.Play(example(), []api.LeachStage{stageA()}, x); e != api.ErrArg || !equalEnds(end, api.LeachEnd{}) {
			t.Error(i, end, e)
		}
	}
	if end, e := leach.Play(example(), nil, exampleTruth()); e != api.ErrArg || !equalEnds(end, api.LeachEnd{}) {
		t.Error(end, e)
	}
}

// P1.3, P0.1 (salt): what is told is what the chapter says of each truth; water and salt are conserved, and the shape lies within what is told.
func TestPlayConserves(t *testing.T) {
	r := rand.New(rand.NewSource(21))
	for i := range 200 {
		c := small(r, 2+i%2)
		stages := smallStages(r, len(c.Slices), i%3)
		shape, e := leach.After(c, stages)
		if e != api.OK {
			t.Fatal(e)
		}
		for x := range truths(c, len(stages)) {
			comparePlay(t, c, stages, x, shape)
		}
	}
}

func comparePlay(t *testing.T, c api.LeachCavern, stages []api.LeachStage, x api.LeachTruth, shape api.LeachShape) {
	t.Helper()
	end, e := leach.Play(c, stages, x)
	volumes, sump := truly(c, stages, x)
	if e != api.OK || !slices.Equal(end.Volumes, volumes) || end.Sump != sump {
		t.Fatal(c, stages, x, end, e)
	}
	water, room, salt := 0, -sump, 0
	for _, s := range stages {
		water += s.Water
	}
	for i, v := range volumes {
		room += v - x.Volumes[i]
		salt += (v - x.Volumes[i]) / c.Slices[i].Open
		if !in(shape.Volumes[i], v) {
			t.Fatal(c, stages, x, end, shape)
		}
	}
	if end.Salt != salt || water*1000000 != end.Brine+room || salt*1000000 != end.Out+c.Hold*room || !in(shape.Sump, sump) {
		t.Fatal(c, stages, x, end, shape)
	}
}

// P1.4
func TestGrade(t *testing.T) {
	hard := example()
	hard.Slices[0].Rate, hard.Slices[1].Rate = span(0, 7), span(0, 0)
	full := example()
	full.Hold = 50
	for i, x := range []struct {
		c         api.LeachCavern
		s         api.LeachStage
		low, high api.Frac
	}{
		{example(), stageA(), api.Frac{Num: 89300, Den: 1893}, api.Frac{Num: 160700, Den: 1807}},
		{example(), stageB(), api.Frac{Num: 161300, Den: 1813}, api.Frac{Num: 100, Den: 1}},
		{hard, stageA(), api.Frac{Num: 0, Den: 1}, api.Frac{Num: 62300, Den: 9923}},
		{full, stageA(), api.Frac{Num: 50, Den: 1}, api.Frac{Num: 50, Den: 1}},
	} {
		if low, high, e := leach.Grade(x.c, x.s); e != api.OK || low != x.low || high != x.high {
			t.Error(i, low, high, e)
		}
	}
	if low, high, e := leach.Grade(example(), api.LeachStage{}); e != api.ErrArg || low != (api.Frac{}) || high != (api.Frac{}) {
		t.Error(low, high, e)
	}
}

// P1.4: the bounds are the strengths of the weakest and of the strongest brine of all truths; no brine is stronger than Hold, and it is that strong just if the water was full.
func TestGradesAreTrue(t *testing.T) {
	r := rand.New(rand.NewSource(22))
	for range 400 {
		c := small(r, 2+r.Intn(3))
		s := smallStages(r, len(c.Slices), 1)[0]
		low, high, e := leach.Grade(c, s)
		if e != api.OK || common(low.Num, low.Den) || common(high.Num, high.Den) {
			t.Fatal(c, s, low, high, e)
		}
		isLow, isHigh := false, false
		for x := range truths(c, 1) {
			end, _ := leach.Play(c, []api.LeachStage{s}, x)
			if end.Out*low.Den < low.Num*end.Brine || end.Out*high.Den > high.Num*end.Brine {
				t.Fatal(c, s, x, end, low, high)
			}
			isLow = isLow || end.Out*low.Den == low.Num*end.Brine
			isHigh = isHigh || end.Out*high.Den == high.Num*end.Brine
			if end.Out > c.Hold*end.Brine || (end.Out == c.Hold*end.Brine) != (end.Salt == c.Hold*s.Water) {
				t.Fatal(c, s, x, end)
			}
		}
		if !isLow || !isHigh {
			t.Fatal(c, s, low, high)
		}
	}
}

// common reports whether a fraction is not in lowest terms.
func common(num, den int) bool {
	if num == 0 {
		return den != 1
	}
	for num > 0 {
		num, den = den%num, num
	}
	return den != 1
}

// P1.4: brine of the greatest numbers has a strength, too.
func TestGreatestGrade(t *testing.T) {
	c, s := greatest()
	for i := range c.Slices {
		c.Slices[i].Fall = 0
	}
	if low, high, e := leach.Grade(c, s); e != api.OK || low != (api.Frac{Num: 0, Den: 1}) || high != (api.Frac{Num: 300, Den: 1}) {
		t.Error(low, high, e)
	}
	c.Slices[0].Rate, s.Out = span(0, 299), 1
	c.Slices[1].Rate = span(0, 0)
	// 299 litres open 897 of 1000 litres of brine: 299000000 less 300 times 897000, in 103000
	if low, high, e := leach.Grade(c, s); e != api.OK || low != (api.Frac{Num: 0, Den: 1}) || high != (api.Frac{Num: 29900, Den: 103}) {
		t.Error(low, high, e)
	}
}
