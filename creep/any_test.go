package creep_test

import (
	"math"
	"math/rand"
	"reflect"
	"testing"

	"saltdome/api"
	"saltdome/creep"
)

// call is a call of every function with some arguments.
type call struct {
	order
	states           []api.CreepState
	days             []api.CreepDay
	i, j, x, y, many int
	pressure         api.Span
}

// result is what a function returned.
type result struct {
	values []any
	e      api.Errno
}

func (c call) do() map[string]result {
	l := map[string]result{}
	l["Check"] = result{nil, creep.Check(c.s)}
	thick, e := creep.Thick(c.s, c.i, c.j)
	l["Thick"] = result{[]any{thick}, e}
	first, e := creep.Begin(c.s)
	l["Begin"] = result{[]any{first}, e}
	var d api.CreepDay
	if len(c.days) > 0 {
		d = c.days[0]
	}
	next, e := creep.Move(c.s, c.states, d)
	l["Move"] = result{[]any{next}, e}
	sunk, e := creep.Sunk(c.s, c.states, c.x, c.y)
	l["Sunk"] = result{[]any{sunk}, e}
	possible, certain, e := creep.Faults(c.s, c.days)
	l["Faults"] = result{[]any{possible, certain}, e}
	longest, e := creep.Longest(c.s, c.i, c.pressure, c.warmth)
	l["Longest"] = result{[]any{longest}, e}
	least, e := creep.Least(c.s, c.i, c.warmth, c.many)
	l["Least"] = result{[]any{least}, e}
	plan, e := c.plan()
	l["Plan"] = result{[]any{plan}, e}
	return l
}

func exampleCall() call {
	c := call{order: calmOrder(1, 2, 1), days: []api.CreepDay{calmDay(), pressed(1, span(9000, 12000)), calmDay()}, j: 2, many: 3, pressure: span(9000, 12000)}
	c.s.Houses[0] = api.CreepHouse{X: 30, Most: 5}
	for _, x := range c.s.Caverns {
		c.states = append(c.states, api.CreepState{Radius: x.Radius, Volume: x.Volume, Lost: span(1, 20)})
	}
	return c
}

// numbers returns where the numbers of a call are.
func (c *call) numbers() []*int {
	l := []*int{&c.i, &c.j, &c.x, &c.y, &c.many, &c.s.Wall}
	spans := []*api.Span{&c.pressure, &c.warmth}
	for i := range c.s.Caverns {
		x := &c.s.Caverns[i]
		l = append(l, &x.X, &x.Y, &x.Rock, &x.Floor, &x.Change)
		spans = append(spans, &x.Radius, &x.Volume, &x.Gate)
	}
	for i := range c.s.Rows {
		l = append(l, &c.s.Rows[i].Deficit)
		spans = append(spans, &c.s.Rows[i].Rate, &c.s.Rows[i].Spall)
	}
	for i := range c.s.Heats {
		l = append(l, &c.s.Heats[i].Warmth)
		spans = append(spans, &c.s.Heats[i].Factor)
	}
	for i := range c.s.Rings {
		l = append(l, &c.s.Rings[i].Away)
		spans = append(spans, &c.s.Rings[i].Share)
	}
	for i := range c.s.Houses {
		l = append(l, &c.s.Houses[i].X, &c.s.Houses[i].Y, &c.s.Houses[i].Most)
	}
	for i := range c.states {
		spans = append(spans, &c.states[i].Radius, &c.states[i].Volume, &c.states[i].Lost)
	}
	for _, d := range c.days {
		for i := range d.Pressures {
			spans = append(spans, &d.Pressures[i], &d.Warmths[i])
		}
	}
	for _, numbers := range [][]int{c.low, c.rest, c.needs} {
		for i := range numbers {
			l = append(l, &numbers[i])
		}
	}
	for _, s := range spans {
		l = append(l, &s.Low, &s.High)
	}
	return l
}

// lists returns where the lists of a call are.
func (c *call) lists() []any {
	return []any{&c.s.Caverns, &c.s.Rows, &c.s.Heats, &c.s.Rings, &c.s.Houses, &c.states, &c.days, &c.days[0].Pressures, &c.days[1].Warmths, &c.low, &c.rest, &c.needs}
}

// cut makes a list shorter, empty, nil or longer.
func cut(r *rand.Rand, list any) {
	l := reflect.ValueOf(list).Elem()
	switch r.Intn(4) {
	case 0:
		l.Set(l.Slice(0, r.Intn(l.Len()+1)))
	case 1:
		l.SetZero()
	case 2:
		l.Set(reflect.AppendSlice(l, l))
	case 3:
		l.Set(reflect.Append(l, reflect.Zero(l.Type().Elem())))
	}
}

// isZero reports whether a value is its zero value, or an empty list.
func isZero(v any) bool {
	r := reflect.ValueOf(v)
	return r.IsZero() || r.Kind() == reflect.Slice && r.Len() == 0
}

// P0.1, R2, R8: every function returns, whatever its arguments are; with an error it returns nothing else, and again the same.
func TestAnyArguments(t *testing.T) {
	values := []int{math.MinInt, math.MinInt + 1, -10001, -10000, -1, 0, 1, 2, 3, 59, 60, 61, 999, 1000, 1001, 3000, 8000, 12000, 20000, 40000, 40001, 50000, 50001, 100000, 200000, 200001, 1000000, 1000001, api.CreepVolume, api.CreepVolume + 1, 100*api.CreepVolume + 1, math.MaxInt - 1, math.MaxInt}
	r := rand.New(rand.NewSource(12))
	fine := 0
	for range 8000 {
		c := exampleCall()
		numbers, lists := c.numbers(), c.lists()
		for range r.Intn(4) {
			*numbers[r.Intn(len(numbers))] = values[r.Intn(len(values))]
		}
		for range r.Intn(3) {
			cut(r, lists[r.Intn(len(lists))])
		}
		done, again := c.do(), c.do()
		if !reflect.DeepEqual(done, again) {
			t.Fatal(c, done, again)
		}
		for f, got := range done {
			if got.e == api.OK {
				fine++
			}
			for _, v := range got.values {
				if got.e != api.OK && !isZero(v) {
					t.Fatal(f, c, got)
				}
			}
		}
	}
	if fine < 8000 {
		t.Error("the arguments are not mixed", fine)
	}
	(call{}).do()
}

// P0.1: sites with the greatest numbers, and with any numbers that they can have.
func TestAnySites(t *testing.T) {
	s, states, d := greatest()
	c := call{order: order{s: s, low: []int{0, 0, 0, 0, 0}, rest: []int{50000, 50000, 50000, 50000, 50000}, warmth: exactly(api.CreepWarmth)}, states: states, days: []api.CreepDay{d}, j: 4, x: -api.CreepPlace, y: -api.CreepPlace, many: api.CreepDays}
	for f, got := range c.do() {
		if got.e != api.OK && (f != "Least" || got.e != api.ErrNone) {
			t.Error(f, got)
		}
	}
	r := rand.New(rand.NewSource(13))
	for range 300 {
		for i := range c.s.Caverns {
			x := &c.s.Caverns[i]
			x.X, x.Y = 5*r.Intn(4000)+i-api.CreepPlace, r.Intn(2*api.CreepPlace)-api.CreepPlace
			x.Radius, x.Volume, x.Floor = someSpan(r, api.CreepRadius), someSpan(r, api.CreepVolume), r.Intn(api.CreepVolume)*r.Intn(2)
			x.Rock, x.Gate, x.Change = r.Intn(api.CreepPressure), span(0, r.Intn(api.CreepPressure)), r.Intn(api.CreepPressure)
			c.low[i], c.rest[i] = r.Intn(x.Rock+1), r.Intn(x.Rock+1)
		}
		for k := range c.s.Rows {
			c.s.Rows[k].Rate, c.s.Rows[k].Spall = span(0, 12*k), span(0, k)
			c.s.Heats[k].Factor = span(0, 1000*(k+1))
		}
		c.s.Wall, c.many, c.needs = r.Intn(api.CreepWall)*r.Intn(2), r.Intn(api.CreepDays+1), nil
		for range c.many {
			c.needs = append(c.needs, r.Intn(6))
		}
		for f, got := range c.do() {
			if got.e != api.OK && got.e != api.ErrNone && (f != "Move" || got.e != api.ErrRule) {
				t.Fatal(f, c, got)
			}
		}
	}
}

// R4: no argument is changed, and no result shares memory with one, or with another result.
func TestMemory(t *testing.T) {
	c := exampleCall()
	done := c.do()
	for f, got := range done {
		if got.e != api.OK {
			t.Error(f, got.e)
		}
	}
	if want := exampleCall(); !reflect.DeepEqual(c, want) {
		t.Error("an argument was changed", c)
	}
	for _, got := range c.do() {
		for _, v := range got.values {
			spoil(reflect.ValueOf(v))
		}
	}
	if want := exampleCall(); !reflect.DeepEqual(c, want) {
		t.Error("a result shares memory with an argument", c)
	}
	if again := c.do(); !reflect.DeepEqual(done, again) {
		t.Error("results share memory", done, again)
	}
}

// spoil overwrites all that lists of a result hold.
func spoil(v reflect.Value) {
	if v.Kind() != reflect.Slice {
		return
	}
	for i := range v.Len() {
		spoil(v.Index(i))
		v.Index(i).SetZero()
	}
}

// R3: nil and empty lists are the same.
func TestEmptyLists(t *testing.T) {
	c := exampleCall()
	c.s.Rings, c.s.Houses, c.days, c.needs = nil, nil, nil, nil
	done := c.do()
	c.s.Rings, c.s.Houses, c.days, c.needs = []api.CreepRing{}, []api.CreepHouse{}, []api.CreepDay{}, []int{}
	if again := c.do(); !reflect.DeepEqual(done, again) || done["Faults"].e != api.OK || done["Plan"].e != api.OK {
		t.Error(done, again)
	}
}
