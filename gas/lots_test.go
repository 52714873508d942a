package gas_test

import (
	"math/rand"
	"testing"

	"saltdome/api"
	"saltdome/gas"
)

// P3.5
func TestRoom(t *testing.T) {
	hundred := only(hot(100, 0))
	for name, x := range map[string]struct {
		change func(*api.GasCavern)
		s      api.GasState
		lot    api.GasPoint
		want   int
	}{
		"just to Most":             {func(c *api.GasCavern) { c.Most = 100 }, hundred, hot(10, 0), 10},
		"not quite to Most":        {func(c *api.GasCavern) { c.Most = 100 }, hundred, hot(11, 0), 9},
		"beyond Most":              {func(c *api.GasCavern) { c.Most = 99 }, hundred, hot(10, 0), 9},
		"no room for one":          {func(c *api.GasCavern) { c.Most = 100 }, hundred, hot(101, 0), 0},
		"room for just one":        {func(c *api.GasCavern) { c.Most = 100 }, hundred, hot(100, 0), 1},
		"as many as can be":        {func(c *api.GasCavern) { c.Most = 100 }, hundred, hot(1, 0), api.GasLots},
		"one less":                 {func(c *api.GasCavern) { c.Most = 99 }, only(hot(100, 0)), hot(1, 0), 98},
		"all but one":              {func(c *api.GasCavern) { c.Most = 100 }, only(hot(101, 0)), hot(1, 0), 99},
		"the greatest content":     {func(c *api.GasCavern) { c.Most = 100 }, state(span(50, 100), span(0, 50), span(2000, 5000), exactly(0)), hot(10, 0), 5},
		"the least volume":         {func(c *api.GasCavern) { c.Most, c.Volume.Low = 100, 4157 }, only(hot(20, 0)), hot(10, 0), 8},
		"heat that comes":          {func(c *api.GasCavern) { c.Most = 100 }, only(point(100, 0, 2500, 0)), hot(100, 0), 1},
		"nothing, in a fine state": {func(c *api.GasCavern) {}, hundred, hot(0, 0), api.GasLots},
		"nothing, in another one":  {func(c *api.GasCavern) { c.Most = 49 }, hundred, hot(0, 0), 0},
		"low, and then fine":       {func(c *api.GasCavern) { c.Least, c.Most = 60, 70 }, hundred, hot(20, 0), 2},
		"low, and fine too late":   {func(c *api.GasCavern) { c.Least, c.Most = 60, 70 }, hundred, hot(10, 0), 0},
		"thin, and then fine":      {func(c *api.GasCavern) { c.Purity = span(100, 300) }, hundred, hot(0, 20), 2},
		"thin, and fine too late":  {func(c *api.GasCavern) { c.Purity = span(100, 300) }, hundred, hot(0, 10), 0},
		"just rich":                {func(c *api.GasCavern) { c.Purity = span(0, 200) }, hundred, hot(0, 5), 5},
		"full of water":            {func(c *api.GasCavern) {}, only(point(5, 5, 5000, api.GasWater-5)), point(0, 0, 2000, 2), 2},
		"full of gas":              {func(c *api.GasCavern) { c.Volume = exactly(api.GasVolume) }, only(point(api.GasMoles-5, 0, 3000, 0)), point(1, 0, 3000, 0), 5},
		"full of hydrogen":         {func(c *api.GasCavern) { c.Volume = exactly(api.GasVolume) }, state(exactly(0), span(0, api.GasMoles-5), exactly(3000), exactly(0)), point(0, 3, 3000, 0), 1},
		"great lots":               {func(c *api.GasCavern) { c.Volume = exactly(api.GasVolume) }, only(point(0, 0, 3000, 0)), point(api.GasMoles, api.GasMoles, 3000, api.GasWater), 1},
	} {
		c := plain()
		x.change(&c)
		if n, e := gas.Room(c, x.s, x.lot); e != api.OK || n != x.want {
			t.Error(name, n, e)
		}
	}
}

// P3.5
func TestWorking(t *testing.T) {
	hundred := only(hot(100, 0))
	for name, x := range map[string]struct {
		change func(*api.GasCavern)
		s      api.GasState
		unit   int
		want   int
	}{
		"just to Least":           {func(c *api.GasCavern) { c.Least = 20 }, hundred, 10, 6},
		"not quite to Least":      {func(c *api.GasCavern) { c.Least = 20 }, hundred, 7, 8},
		"beyond Least":            {func(c *api.GasCavern) { c.Least = 21 }, hundred, 10, 5},
		"not even one":            {func(c *api.GasCavern) { c.Least = 20 }, hundred, 61, 0},
		"just one":                {func(c *api.GasCavern) { c.Least = 20 }, hundred, 60, 1},
		"all":                     {func(c *api.GasCavern) {}, hundred, 10, 10},
		"all but some":            {func(c *api.GasCavern) {}, hundred, 11, 9},
		"one by one":              {func(c *api.GasCavern) {}, hundred, 1, api.GasLots},
		"as many as can be":       {func(c *api.GasCavern) {}, only(hot(0, 101)), 1, api.GasLots},
		"one less":                {func(c *api.GasCavern) {}, only(hot(0, 99)), 1, 99},
		"the least content":       {func(c *api.GasCavern) {}, state(span(50, 100), span(5, 20), exactly(5000), exactly(0)), 10, 5},
		"the least temperature":   {func(c *api.GasCavern) { c.Least = 20 }, state(exactly(100), exactly(0), span(2500, 5000), exactly(0)), 10, 2},
		"the greatest volume":     {func(c *api.GasCavern) { c.Least, c.Volume.High = 20, 16628 }, hundred, 10, 2},
		"high, and then fine":     {func(c *api.GasCavern) { c.Least, c.Most = 20, 30 }, hundred, 40, 1},
		"high, and fine too late": {func(c *api.GasCavern) { c.Least, c.Most = 20, 30 }, hundred, 10, 0},
		"thin":                    {func(c *api.GasCavern) { c.Purity.Low = 1 }, hundred, 10, 0},
		"rich, when it is less":   {func(c *api.GasCavern) { c.Purity.High = 100 }, only(hot(90, 10)), 5, 0},
		"great units":             {func(c *api.GasCavern) { c.Volume = exactly(api.GasVolume) }, only(point(api.GasMoles, api.GasMoles, 3000, api.GasWater)), api.GasMoles, 2},
		"nothing":                 {func(c *api.GasCavern) {}, only(hot(0, 0)), 1, 0},
	} {
		c := plain()
		x.change(&c)
		if n, e := gas.Working(c, x.s, x.unit); e != api.OK || n != x.want {
			t.Error(name, n, e)
		}
	}
}

// P3.6
func TestPurge(t *testing.T) {
	for name, x := range map[string]struct {
		purity api.Span
		s      api.GasState
		lot    api.GasPoint
		want   int
		e      api.Errno
	}{
		"pure at first":            {span(0, 100), only(hot(90, 10)), hot(0, 9), 0, api.OK},
		"pure with one":            {span(100, 200), only(hot(90, 0)), hot(0, 10), 1, api.OK},
		"pure with two":            {span(100, 200), only(hot(91, 0)), hot(0, 10), 2, api.OK},
		"rich, and just pure":      {span(0, 200), only(hot(50, 50)), hot(10, 0), 15, api.OK},
		"rich, and not quite":      {span(0, 199), only(hot(50, 50)), hot(10, 0), 16, api.OK},
		"with as many as can be":   {span(100, 200), only(hot(900, 0)), hot(0, 1), api.GasLots, api.OK},
		"with more than can be":    {span(100, 200), only(hot(901, 0)), hot(0, 1), 0, api.ErrNone},
		"thin, and then rich":      {span(100, 200), only(hot(100, 0)), hot(0, 100), 0, api.ErrNone},
		"whatever there is, thin":  {span(100, 300), state(span(80, 100), span(0, 10), exactly(5000), exactly(0)), hot(0, 10), 2, api.OK},
		"whatever there is, rich":  {span(0, 200), state(span(40, 50), span(40, 50), exactly(5000), exactly(0)), hot(10, 0), 16, api.OK},
		"never for all there is":   {span(100, 110), state(span(80, 100), span(0, 10), exactly(5000), exactly(0)), hot(0, 1), 0, api.ErrNone},
		"with nothing":             {span(100, 200), only(hot(100, 0)), hot(0, 0), 0, api.ErrNone},
		"nothing with nothing":     {span(100, 200), only(hot(0, 0)), hot(0, 0), 0, api.OK},
		"nothing is pure":          {span(100, 200), only(hot(0, 0)), hot(0, 1), 0, api.OK},
		"too much water":           {span(100, 200), only(point(100, 0, 5000, api.GasWater-9)), point(0, 10, 5000, 5), 0, api.ErrNone},
		"just not too much water":  {span(100, 200), only(point(100, 0, 5000, api.GasWater-10)), point(0, 10, 5000, 5), 2, api.OK},
		"too much gas":             {span(0, 499), only(point(api.GasMoles, api.GasMoles, 5000, 0)), hot(1, 0), 0, api.ErrNone},
		"too much, but pure":       {span(0, 500), only(point(api.GasMoles, api.GasMoles, 5000, 0)), hot(1, 0), 0, api.OK},
		"water is not pure or not": {span(0, 200), only(hot(50, 50)), point(0, 0, 5000, 1), 0, api.ErrNone},
	} {
		c := plain()
		c.Purity = x.purity
		c.Most = 0 // of pressures nothing is asked
		if n, e := gas.Purge(c, x.s, x.lot); e != x.e || n != x.want {
			t.Error(name, n, e)
		}
	}
}

// P3.5, P3.6
func TestLotErrors(t *testing.T) {
	check := func(name string, c api.GasCavern, s api.GasState, lot api.GasPoint) {
		if n, e := gas.Room(c, s, lot); e != api.ErrArg || n != 0 {
			t.Error(name, n, e)
		}
		if n, e := gas.Purge(c, s, lot); e != api.ErrArg || n != 0 {
			t.Error(name, n, e)
		}
		if lot != exampleLot() {
			return
		}
		if n, e := gas.Working(c, s, 1); e != api.ErrArg || n != 0 {
			t.Error(name, n, e)
		}
	}
	for _, b := range badCaverns() {
		c := example()
		b.change(&c)
		check(b.name, c, exampleState(), exampleLot())
	}
	for _, b := range badStates() {
		s := exampleState()
		b.change(&s)
		check(b.name, example(), s, exampleLot())
	}
	for _, b := range badPoints() {
		lot := exampleLot()
		b.change(&lot)
		check(b.name, example(), exampleState(), lot)
	}
	for _, unit := range []int{-1, 0, api.GasMoles + 1} {
		if n, e := gas.Working(example(), exampleState(), unit); e != api.ErrArg || n != 0 {
			t.Error(unit, n, e)
		}
	}
	if n, e := gas.Working(example(), exampleState(), api.GasMoles); e != api.OK || n != 0 {
		t.Error(n, e)
	}
}

// lots returns so many lots.
func lots(lot api.GasPoint, n int) api.GasPoint {
	return point(n*lot.Gas, n*lot.Hydrogen, lot.Heat, n*lot.Water)
}

// mostAsSaid returns the greatest number so that the operations of all numbers from 1 to it can be done, and no rule can be broken behind them.
func mostAsSaid(c api.GasCavern, s api.GasState, op func(int) api.GasOp) int {
	for n := 1; n <= api.GasLots; n++ {
		after, _, ok := behind(c, s, op(n))
		if !ok || ruleOf(c, after, api.GasLow, api.GasHigh, api.GasThin, api.GasRich) != api.GasFine {
			return n - 1
		}
	}
	return api.GasLots
}

// purgeAsSaid returns the least number of lots behind which no content has too little hydrogen, nor too much.
func purgeAsSaid(c api.GasCavern, s api.GasState, lot api.GasPoint) (int, bool) {
	for n := 0; n <= api.GasLots; n++ {
		after, _, ok := behind(c, s, inject(lots(lot, n)))
		if ok && ruleOf(c, after, api.GasThin, api.GasRich) == api.GasFine {
			return n, true
		}
	}
	return 0, false
}

// lotCavern returns a small cavern in which much is fine.
func lotCavern(r *rand.Rand) api.GasCavern {
	c := smallCavern(r)
	c.Least, c.Most = r.Intn(2)*r.Intn(5), 10+r.Intn(20)
	c.Purity = span(r.Intn(2)*r.Intn(400), 400+r.Intn(2)*r.Intn(601))
	return c
}

// P3.5, P0.3: what is returned is what the chapter says, whatever is true.
func TestRoomAndWorkingAreTrue(t *testing.T) {
	r := rand.New(rand.NewSource(8))
	some := 0
	for range 400 {
		c, s := lotCavern(r), smallState(r)
		lot, unit := smallLot(r), 1+r.Intn(5)
		room, e := gas.Room(c, s, lot)
		if want := mostAsSaid(c, s, func(n int) api.GasOp { return inject(lots(lot, n)) }); e != api.OK || room != want {
			t.Fatal(c, s, lot, room, want, e)
		}
		working, e := gas.Working(c, s, unit)
		if want := mostAsSaid(c, s, func(n int) api.GasOp { return withdraw(n * unit) }); e != api.OK || working != want {
			t.Fatal(c, s, unit, working, want, e)
		}
		if room > 0 || working > 0 {
			some++
		}
	}
	if some < 50 {
		t.Error("there is seldom room, or gas to be worked with", some)
	}
}

// P3.6: what is returned is what the chapter says; with one lot less, some content has too little hydrogen, or too much.
func TestPurgeIsTrue(t *testing.T) {
	r := rand.New(rand.NewSource(9))
	purged, never := 0, 0
	for range 400 {
		c, s, lot := lotCavern(r), smallState(r), smallLot(r)
		n, e := gas.Purge(c, s, lot)
		want, ok := purgeAsSaid(c, s, lot)
		if ok != (e == api.OK) || !ok && e != api.ErrNone || n != want {
			t.Fatal(c, s, lot, n, e, want, ok)
		}
		if !ok {
			never++
		} else if n > 0 {
			purged++
		}
	}
	if purged < 30 || never < 30 {
		t.Error("the states are not mixed", purged, never)
	}
}
