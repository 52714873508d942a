package gas_test

import (
	"math/big"
	"math/rand"
	"testing"

	"saltdome/api"
	"saltdome/gas"
)

// P3.1
func TestCheck(t *testing.T) {
	least := api.GasCavern{Volume: exactly(1), Factors: [2]int{500, 500}, Heats: [2]int{1, 1}, Rock: api.GasCold}
	most := api.GasCavern{Volume: exactly(api.GasVolume), Least: api.GasPressure, Most: api.GasPressure, Factors: [2]int{2000, 2000}, Heats: [2]int{100, 100}, Rock: api.GasHot, Purity: exactly(1000)}
	for _, c := range []api.GasCavern{example(), plain(), least, most} {
		if e := gas.Check(c); e != api.OK {
			t.Error(c, e)
		}
	}
	for _, b := range badCaverns() {
		c := example()
		b.change(&c)
		if e := gas.Check(c); e != api.ErrArg {
			t.Error(b.name, e)
		}
	}
	if e := gas.Check(api.GasCavern{}); e != api.ErrArg {
		t.Error(e)
	}
}

// P3.1
func TestPressure(t *testing.T) {
	wide := plain()
	wide.Volume = span(8314, 16628)
	uneven := plain()
	uneven.Factors = [2]int{500, 2000}
	great := api.GasCavern{Volume: span(1, api.GasVolume), Most: api.GasPressure, Factors: [2]int{2000, 2000}, Heats: [2]int{100, 100}, Rock: api.GasHot}
	for name, x := range map[string]struct {
		c               api.GasCavern
		s               api.GasState
		least, greatest api.Frac
	}{
		"the example":       {example(), exampleState(), api.Frac{Num: 236949, Den: 55}, api.Frac{Num: 128867, Den: 25}},
		"nothing":           {plain(), only(hot(0, 0)), api.Frac{Num: 0, Den: 1}, api.Frac{Num: 0, Den: 1}},
		"a whole number":    {plain(), only(hot(10, 20)), api.Frac{Num: 15, Den: 1}, api.Frac{Num: 15, Den: 1}},
		"a half":            {plain(), only(hot(1, 0)), api.Frac{Num: 1, Den: 2}, api.Frac{Num: 1, Den: 2}},
		"volumes":           {wide, only(hot(30, 0)), api.Frac{Num: 15, Den: 2}, api.Frac{Num: 15, Den: 1}},
		"factors":           {uneven, state(span(0, 4), span(0, 3), exactly(api.GasHot), exactly(0)), api.Frac{Num: 0, Den: 1}, api.Frac{Num: 4, Den: 1}},
		"temperatures":      {plain(), state(exactly(10), exactly(0), span(2000, 5000), exactly(0)), api.Frac{Num: 2, Den: 1}, api.Frac{Num: 5, Den: 1}},
		"water is no gas":   {plain(), state(exactly(2), exactly(0), exactly(5000), span(0, api.GasWater)), api.Frac{Num: 1, Den: 1}, api.Frac{Num: 1, Den: 1}},
		"as great as it is": {great, state(span(1, api.GasMoles), span(0, api.GasMoles), span(api.GasCold, api.GasHot), exactly(0)), api.Frac{Num: 4157, Den: 1250000}, api.Frac{Num: 16628000000, Den: 1}},
	} {
		least, greatest, e := gas.Pressure(x.c, x.s)
		if e != api.OK || least != x.least || greatest != x.greatest {
			t.Error(name, least, greatest, e)
		}
	}
}

// P3.1: whatever content and volume are true, the pressure lies within what is told; both are attained.
func TestPressureIsTrue(t *testing.T) {
	r := rand.New(rand.NewSource(1))
	for range 300 {
		c, s := smallCavern(r), smallState(r)
		least, greatest, e := gas.Pressure(c, s)
		if e != api.OK {
			t.Fatal(c, s, e)
		}
		low, high := pressureOf(c, somePoint(r, s), c.Volume.Low), new(big.Rat)
		for _, p := range contents(s) {
			for volume := c.Volume.Low; volume <= c.Volume.High; volume++ {
				n := pressureOf(c, p, volume)
				if n.Cmp(low) < 0 {
					low = n
				}
				if n.Cmp(high) > 0 {
					high = n
				}
			}
		}
		if !is(least, low) || !is(greatest, high) {
			t.Fatal(c, s, least, low, greatest, high)
		}
	}
}

// is reports whether a fraction is a number in lowest terms.
func is(f api.Frac, n *big.Rat) bool {
	return n.Num().Int64() == int64(f.Num) && n.Denom().Int64() == int64(f.Den)
}

// P3.2
func TestSure(t *testing.T) {
	for name, x := range map[string]struct {
		change func(*api.GasCavern)
		s      api.GasState
		want   api.GasRule
	}{
		"the example":          {func(c *api.GasCavern) { *c = example() }, exampleState(), api.GasFine},
		"the example, high":    {func(c *api.GasCavern) { *c = example(); c.Most = 5000 }, exampleState(), api.GasHigh},
		"the example, thin":    {func(c *api.GasCavern) { *c = example(); c.Purity.Low = 50 }, exampleState(), api.GasThin},
		"the example, rich":    {func(c *api.GasCavern) { *c = example(); c.Purity.High = 51 }, exampleState(), api.GasRich},
		"just Least and Most":  {func(c *api.GasCavern) { c.Least, c.Most = 50, 50 }, only(hot(60, 40)), api.GasFine},
		"below Least":          {func(c *api.GasCavern) { c.Least = 51 }, only(hot(60, 40)), api.GasLow},
		"a half below Least":   {func(c *api.GasCavern) { c.Least = 51 }, only(hot(60, 41)), api.GasLow},
		"above Most":           {func(c *api.GasCavern) { c.Most = 49 }, only(hot(60, 40)), api.GasHigh},
		"a half above Most":    {func(c *api.GasCavern) { c.Most = 50 }, only(hot(60, 41)), api.GasHigh},
		"low when it is great": {func(c *api.GasCavern) { c.Least, c.Volume.High = 50, 8315 }, only(hot(60, 40)), api.GasLow},
		"high when it's small": {func(c *api.GasCavern) { c.Most, c.Volume.Low = 50, 8313 }, only(hot(60, 40)), api.GasHigh},
		"low when it is cold":  {func(c *api.GasCavern) { c.Least = 50 }, state(exactly(60), exactly(40), span(4999, 5000), exactly(0)), api.GasLow},
		"high when it is hot":  {func(c *api.GasCavern) { c.Most = 49 }, state(exactly(60), exactly(40), span(4900, 4901), exactly(0)), api.GasHigh},
		"low with little gas":  {func(c *api.GasCavern) { c.Least = 50 }, state(span(59, 60), exactly(40), exactly(5000), exactly(0)), api.GasLow},
		"high with hydrogen":   {func(c *api.GasCavern) { c.Most = 50 }, state(exactly(60), span(40, 41), exactly(5000), exactly(0)), api.GasHigh},
		"just pure":            {func(c *api.GasCavern) { c.Purity = exactly(100) }, only(hot(90, 10)), api.GasFine},
		"thin":                 {func(c *api.GasCavern) { c.Purity.Low = 101 }, only(hot(90, 10)), api.GasThin},
		"rich":                 {func(c *api.GasCavern) { c.Purity.High = 99 }, only(hot(90, 10)), api.GasRich},
		"thin with more gas":   {func(c *api.GasCavern) { c.Purity.Low = 100 }, state(span(90, 91), span(10, 11), exactly(5000), exactly(0)), api.GasThin},
		"rich with less gas":   {func(c *api.GasCavern) { c.Purity.High = 100 }, state(span(89, 90), span(9, 10), exactly(5000), exactly(0)), api.GasRich},
		"all hydrogen":         {func(c *api.GasCavern) { c.Purity = exactly(1000) }, only(hot(0, 7)), api.GasFine},
		"no hydrogen":          {func(c *api.GasCavern) { c.Purity = exactly(0) }, only(hot(7, 0)), api.GasFine},
		"nothing is pure":      {func(c *api.GasCavern) { c.Purity = exactly(500) }, only(hot(0, 0)), api.GasFine},
		"nothing is low":       {func(c *api.GasCavern) { c.Purity, c.Least = exactly(500), 1 }, only(hot(0, 0)), api.GasLow},
		"nothing, or gas":      {func(c *api.GasCavern) { c.Purity.Low = 1 }, state(span(0, 1), exactly(0), exactly(5000), exactly(0)), api.GasThin},
		"low comes first":      {func(c *api.GasCavern) { c.Least, c.Most, c.Purity = 1, 1, exactly(500) }, state(span(0, 9), span(0, 9), exactly(5000), exactly(0)), api.GasLow},
		"high comes second":    {func(c *api.GasCavern) { c.Most, c.Purity = 1, exactly(500) }, state(span(0, 9), span(0, 9), exactly(5000), exactly(0)), api.GasHigh},
		"thin comes third":     {func(c *api.GasCavern) { c.Purity = exactly(500) }, state(span(0, 9), span(0, 9), exactly(5000), exactly(0)), api.GasThin},
		"greatest gates":       {func(c *api.GasCavern) { c.Volume, c.Least = exactly(api.GasVolume), api.GasPressure }, only(hot(api.GasMoles, api.GasMoles)), api.GasLow},
		"greatest pressure":    {func(c *api.GasCavern) { c.Volume, c.Factors = exactly(1), [2]int{2000, 2000} }, only(hot(api.GasMoles, api.GasMoles)), api.GasHigh},
	} {
		c := plain()
		x.change(&c)
		if rule, e := gas.Sure(c, x.s); e != api.OK || rule != x.want {
			t.Error(name, rule, e)
		}
	}
}

// P3.2, P0.3: if a state is fine, no content of it breaks a rule in any volume; otherwise, some does, and none an earlier one.
func TestSureIsTrue(t *testing.T) {
	r := rand.New(rand.NewSource(2))
	seen := map[api.GasRule]int{}
	for range 1500 {
		c, s := smallCavern(r), smallState(r)
		if r.Intn(2) == 0 {
			c.Least, c.Most = 0, api.GasPressure
		}
		rule, e := gas.Sure(c, s)
		if want := ruleOf(c, s, api.GasLow, api.GasHigh, api.GasThin, api.GasRich); e != api.OK || rule != want {
			t.Fatal(c, s, rule, want, e)
		}
		seen[rule]++
	}
	for rule := api.GasFine; rule <= api.GasRich; rule++ {
		if seen[rule] < 50 {
			t.Error("the states are not mixed", seen)
		}
	}
}

// P3.1, P3.2
func TestStateErrors(t *testing.T) {
	check := func(name string, c api.GasCavern, s api.GasState) {
		if a, b, e := gas.Pressure(c, s); e != api.ErrArg || a != (api.Frac{}) || b != (api.Frac{}) {
			t.Error(name, a, b, e)
		}
		if rule, e := gas.Sure(c, s); e != api.ErrArg || rule != 0 {
			t.Error(name, rule, e)
		}
	}
	for _, b := range badCaverns() {
		c := example()
		b.change(&c)
		check(b.name, c, exampleState())
	}
	for _, b := range badStates() {
		s := exampleState()
		b.change(&s)
		check(b.name, example(), s)
	}
}
