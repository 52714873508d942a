package plant_test

import (
	"math"
	"math/rand"
	"reflect"
	"slices"
	"testing"

	"saltdome/api"
	"saltdome/plant"
)

// call is a call of every function with some arguments.
type call struct {
	l        []api.PlantMachine
	running  []bool
	flow     int
	ratio    api.Span
	hours    []api.PlantHour
	schedule [][]api.PlantState
}

// result is what a function returned.
type result struct {
	values []any
	e      api.Errno
}

func (c call) do() map[string]result {
	l := map[string]result{}
	l["Check"] = result{nil, plant.Check(c.l)}
	var m api.PlantMachine
	if len(c.l) > 0 {
		m = c.l[0]
	}
	row, e := plant.Row(m, c.ratio.Low)
	l["Row"] = result{[]any{row}, e}
	shares, prices, energy, e := plant.Share(c.l, c.running, c.flow, c.ratio.Low)
	l["Share"] = result{[]any{shares, prices, energy}, e}
	weak, e := plant.Weak(c.l, c.running, c.flow, c.ratio)
	l["Weak"] = result{[]any{weak}, e}
	fault, e := plant.Fault(c.l, c.hours, c.schedule)
	l["Fault"] = result{[]any{fault}, e}
	bounds, starts, e := plant.Cost(c.l, c.hours, c.schedule)
	l["Cost"] = result{[]any{bounds, starts}, e}
	schedule, least, e := plant.Best(c.l, c.hours)
	l["Best"] = result{[]any{schedule, least}, e}
	return l
}

func exampleCall() call {
	return call{example(), []bool{true, true}, 200, span(1500, 2500), exampleHours(), scheduleOf("-r", "rr", "rr")}
}

func (c call) copied() call {
	c.l, c.running, c.hours = copied(c.l), slices.Clone(c.running), slices.Clone(c.hours)
	c.schedule = slices.Clone(c.schedule)
	for h := range c.schedule {
		c.schedule[h] = slices.Clone(c.schedule[h])
	}
	return c
}

// numbers returns where the numbers of a call are.
func (c *call) numbers() []*int {
	l := []*int{&c.flow, &c.ratio.Low, &c.ratio.High}
	for i := range c.l {
		m := &c.l[i]
		l = append(l, (*int)(&m.Kind), &m.Start, &m.Up, &m.Down, &m.Left, &m.Life, &m.Service, &m.Since)
		for k := range m.Rows {
			r := &m.Rows[k]
			l = append(l, &r.Ratio, &r.Least, &r.Most, &r.Energy)
		}
	}
	for i := range c.hours {
		h := &c.hours[i]
		l = append(l, &h.Flow, &h.Ratio.Low, &h.Ratio.High)
	}
	for _, does := range c.schedule {
		for i := range does {
			l = append(l, (*int)(&does[i]))
		}
	}
	return l
}

// mix changes numbers and lists of a call.
func (c *call) mix(r *rand.Rand) {
	values := []int{math.MinInt, -1, 0, 1, 2, 3, 4, 10, 100, 250, 999, 1000, 1001, 2000, 3000, api.PlantRatio, api.PlantRatio + 1, api.PlantFlow, api.PlantFlow + 1, api.PlantStart, math.MaxInt - 1, math.MaxInt}
	numbers := c.numbers()
	for range r.Intn(4) {
		*numbers[r.Intn(len(numbers))] = values[r.Intn(len(values))]
	}
	for range r.Intn(3) {
		c.schedule[r.Intn(len(c.schedule))][r.Intn(len(c.l))] = api.PlantState(r.Intn(3))
	}
	i := r.Intn(len(c.l))
	c.l[i].Runs = r.Intn(2) == 0
	c.running[i] = r.Intn(3) > 0
	switch r.Intn(12) {
	case 0:
		c.l = c.l[:r.Intn(2)]
	case 1:
		c.l = slices.Repeat(c.l, 1+r.Intn(4))
	case 2:
		c.running = slices.Repeat(c.running, r.Intn(3))
	case 3:
		c.hours, c.schedule = slices.Repeat(c.hours, r.Intn(14)), slices.Repeat(c.schedule, r.Intn(14))
	case 4:
		c.schedule[r.Intn(3)] = nil
	case 5:
		c.l[r.Intn(2)].Rows = nil
	case 6:
		c.hours, c.schedule = c.hours[:2], c.schedule[:2]
	}
}

// P0.1, R2, R4, R8: every function returns, whatever its arguments are; it changes none of them, with an error it returns nothing else, and again the same.
func TestAnyArguments(t *testing.T) {
	r := rand.New(rand.NewSource(11))
	counts := map[api.Errno]int{}
	for range 6000 {
		c := exampleCall()
		c.mix(r)
		before := c.copied()
		done, again := c.do(), c.do()
		if !reflect.DeepEqual(done, again) || !reflect.DeepEqual(before, c.copied()) {
			t.Fatal(before, c, done, again)
		}
		for f, got := range done {
			counts[got.e]++
			for _, v := range got.values {
				if x := reflect.ValueOf(v); got.e != api.OK && !x.IsZero() && (x.Kind() != reflect.Slice || x.Len() > 0) {
					t.Fatal(f, c, got)
				}
			}
		}
	}
	for _, e := range []api.Errno{api.OK, api.ErrArg, api.ErrLong, api.ErrNone, api.ErrRule} {
		if counts[e] < 200 {
			t.Error("the arguments are not mixed", counts)
		}
	}
}

// P0.1: so it is with the zero values.
func TestZeroArguments(t *testing.T) {
	for name, x := range (call{}).do() {
		if x.e != api.ErrArg {
			t.Error(name, x)
		}
	}
}

// P0.1: the greatest plants, with the greatest numbers.
func TestGreatestNumbers(t *testing.T) {
	m := api.PlantMachine{Kind: api.PlantDry, Start: api.PlantStart, Up: 1, Down: 1, Left: api.PlantTimes, Life: api.PlantTimes, Service: api.PlantTimes, Since: api.PlantTimes}
	for i := range api.PlantRows {
		m.Rows = append(m.Rows, row(1000+800*i, 0, api.PlantFlow, api.PlantEnergy))
	}
	l := slices.Repeat(plantOf(m), api.PlantMachines)
	hours := slices.Repeat(hoursOf(hour(api.PlantFlow, 1000, api.PlantRatio)), api.PlantHours)
	schedule, energy, e := plant.Best(l, hours)
	if e != api.OK || energy != api.PlantHours*api.PlantFlow*api.PlantEnergy+api.PlantStart || !equal(schedule, slices.Repeat(scheduleOf("-----r"), api.PlantHours)) {
		t.Error(schedule, energy, e)
	}
	for i := range l {
		l[i].Up, l[i].Down = api.PlantTimes, api.PlantTimes
		for k := range l[i].Rows {
			l[i].Rows[k].Least = api.PlantFlow
		}
		l[i].Runs = true
		l[i].Since = 0
	}
	schedule, energy, e = plant.Best(l, hours)
	if e != api.OK || energy != api.PlantMachines*api.PlantHours*api.PlantFlow*api.PlantEnergy || !equal(schedule, slices.Repeat(scheduleOf("rrrrrr"), api.PlantHours)) {
		t.Error(schedule, energy, e)
	}
}

// R4: what is returned shares no memory with arguments or with itself.
func TestResultsShareNoMemory(t *testing.T) {
	l, hours := slices.Repeat(plantOf(free(10)), 3), slices.Repeat(flows(10), 3)
	schedule, _, e := plant.Best(l, hours)
	if e != api.OK {
		t.Fatal(e)
	}
	for i := range schedule[0] {
		schedule[0][i] = served
	}
	schedule[0] = append(schedule[0], served)
	if !equal(schedule[1:], scheduleOf("--r", "--r")) {
		t.Error(schedule)
	}
	running := []bool{true, true, true}
	shares, prices, _, e := plant.Share(l, running, 10, 1000)
	if e != api.OK {
		t.Fatal(e)
	}
	shares = append(shares, 99)
	prices[0] = 99
	if !slices.Equal(shares[:3], []int{10, 0, 0}) || !slices.Equal(running, []bool{true, true, true}) || !slices.Equal(prices, []int{99, 0, 0}) {
		t.Error(shares, prices, running)
	}
}
