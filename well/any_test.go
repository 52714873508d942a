package well_test

import (
	"math"
	"math/rand"
	"reflect"
	"slices"
	"testing"

	"saltdome/api"
	"saltdome/well"
)

// call is a call of every function with some arguments.
type call struct {
	w      api.Well
	day    int
	op     api.WellOp
	passes bool
	goal   []api.WellWant
	fails  int
	text   string
}

// answer is what a function returned.
type answer struct {
	values []any
	e      api.Errno
}

func (c call) do() map[string]answer {
	l := map[string]answer{}
	l["Check"] = answer{nil, well.Check(c.w)}
	number, e := well.Number(c.w, c.day)
	l["Number"] = answer{[]any{number}, e}
	barriers, way, e := well.Barriers(c.w, c.day)
	l["Barriers"] = answer{[]any{barriers, way}, e}
	alone, e := well.Alone(c.w, c.day)
	l["Alone"] = answer{[]any{alone}, e}
	last, e := well.Lasts(c.w, c.day)
	l["Lasts"] = answer{[]any{last}, e}
	behind, cost, e := well.Do(c.w, c.day, c.op, c.passes)
	l["Do"] = answer{[]any{behind, cost}, e}
	op, price, e := well.Advise(c.w, c.day, c.goal, c.fails)
	l["Advise"] = answer{[]any{op, price}, e}
	why, e := well.Why(c.w, c.day, c.goal)
	l["Why"] = answer{[]any{why}, e}
	book, e := well.Print(c.w)
	l["Print"] = answer{[]any{book}, e}
	read, e := well.Read(c.text)
	l["Read"] = answer{[]any{read}, e}
	return l
}

func exampleCall() call {
	return call{w: example(), day: 281, op: op(api.WellTest, 1), goal: goalOf(want(0, true, false), want(1, false, true)), fails: 1, text: shortBook}
}

// numbers returns where the numbers of a call are.
func (c *call) numbers() []*int {
	l := []*int{&c.w.Rooms, &c.w.Need, &c.day, (*int)(&c.op.Kind), &c.op.Part, &c.fails}
	for i := range c.w.Parts {
		p := &c.w.Parts[i]
		l = append(l, &p.One, &p.Other, &p.Tested, &p.Valid, &p.Test, &p.Change)
	}
	for i := range c.goal {
		l = append(l, &c.goal[i].Part)
	}
	return l
}

// flags returns where the flags of a call are.
func (c *call) flags() []*bool {
	l := []*bool{&c.passes}
	for i := range c.w.Parts {
		l = append(l, &c.w.Parts[i].Valve, &c.w.Parts[i].Open, &c.w.Parts[i].Bad)
	}
	for i := range c.goal {
		l = append(l, &c.goal[i].Open, &c.goal[i].Good)
	}
	return l
}

// mix changes numbers, flags and lists of a call, and its text.
func (c *call) mix(r *rand.Rand) {
	values := []int{math.MinInt, -1, 0, 1, 2, 3, 4, 5, 6, 8, 9, 12, 13, 180, 281, 1000, 1001, api.WellDays, api.WellDays + 1, math.MaxInt - 1, math.MaxInt}
	numbers, flags := c.numbers(), c.flags()
	for range r.Intn(3) {
		*numbers[r.Intn(len(numbers))] = values[r.Intn(len(values))]
	}
	for range r.Intn(4) {
		f := flags[r.Intn(len(flags))]
		*f = !*f
	}
	if r.Intn(2) == 0 {
		c.op = op(api.WellKind(1+r.Intn(4)), r.Intn(6))
	}
	switch r.Intn(6) {
	case 0:
		c.w.Parts = c.w.Parts[:r.Intn(7)]
	case 1:
		c.w.Parts = slices.Repeat(c.w.Parts, 1+r.Intn(3))
	case 2:
		c.goal = slices.Repeat(c.goal, r.Intn(3))
	case 3:
		i := r.Intn(len(c.text))
		c.text = c.text[:i] + string(rune(r.Intn(300))) + c.text[i+r.Intn(2):]
	}
}

// P0.1, R2, R4, R8: every function returns, whatever its arguments are; it changes none of them, with an error it returns nothing else, and again the same.
func TestAnyArguments(t *testing.T) {
	r := rand.New(rand.NewSource(15))
	counts := map[api.Errno]int{}
	for range 4000 {
		c := exampleCall()
		c.mix(r)
		before := c
		before.w, before.goal = copied(c.w), slices.Clone(c.goal)
		done, again := c.do(), c.do()
		if !reflect.DeepEqual(done, again) || !reflect.DeepEqual(before, c) {
			t.Fatal(before, c, done, again)
		}
		for f, got := range done {
			counts[got.e]++
			for _, v := range got.values {
				if x := reflect.ValueOf(v); got.e != api.OK && !x.IsZero() && (x.Kind() != reflect.Slice || x.Len() > 0) {
					t.Fatal(f, c, got)
				}
			}
		}
	}
	for _, e := range []api.Errno{api.OK, api.ErrArg, api.ErrLong, api.ErrText, api.ErrNone, api.ErrState, api.ErrRule} {
		if counts[e] < 50 {
			t.Error("the arguments are not mixed", counts)
		}
	}
}

// P0.1: so it is with the zero values.
func TestZeroArguments(t *testing.T) {
	for name, x := range (call{}).do() {
		if want := map[bool]api.Errno{true: api.ErrText, false: api.ErrArg}[name == "Read"]; x.e != want {
			t.Error(name, x)
		}
	}
}

// P0.1: the greatest wells, on all of whose rooms many parts lie.
func TestGreatestWells(t *testing.T) {
	r := rand.New(rand.NewSource(16))
	for rooms := 2; rooms <= api.WellRooms; rooms++ {
		w := someWell(r, rooms, api.WellParts)
		for i := range w.Parts {
			w.Parts[i].Tested, w.Parts[i].Valid = api.WellDays-i, 0
		}
		for _, day := range []int{0, api.WellDays} {
			n, e := well.Number(w, day)
			if e != api.OK || n != numberAsSaid(w, day) {
				t.Error(w, day, n, e)
			}
		}
	}
}

// R4: what is returned shares no memory with arguments.
func TestResultsShareNoMemory(t *testing.T) {
	w := example()
	behind, _, e := well.Do(w, 200, op(api.WellTest, 1), true)
	if e != api.OK {
		t.Fatal(e)
	}
	for i := range behind.Parts {
		behind.Parts[i] = api.WellPart{}
	}
	if !same(w, example()) {
		t.Error(w)
	}
	behind, _, _ = well.Do(w, 200, op(api.WellTest, 1), true)
	w.Parts[3] = api.WellPart{}
	if behind.Parts[3] != example().Parts[3] {
		t.Error(behind)
	}
	barriers, way, _ := well.Barriers(example(), 200)
	barriers[0] = append(barriers[0], 99)
	way[0] = 99
	if !slices.Equal(barriers[1], []int{2, 4}) || barriers[0][0] != 0 {
		t.Error(barriers)
	}
}
