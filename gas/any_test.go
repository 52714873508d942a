package gas_test

import (
	"math"
	"math/rand"
	"reflect"
	"slices"
	"testing"

	"saltdome/api"
	"saltdome/gas"
)

// call is a call of every function with some arguments.
type call struct {
	C            api.GasCavern
	S            api.GasState
	P, Lot       api.GasPoint
	Ops          []api.GasOp
	Shares, Wets []int
	Unit         int
}

// result is what a function returned.
type result struct {
	values []any
	e      api.Errno
}

func (c call) do() map[string]result {
	l := map[string]result{}
	l["Check"] = result{nil, gas.Check(c.C)}
	least, greatest, e := gas.Pressure(c.C, c.S)
	l["Pressure"] = result{[]any{least, greatest}, e}
	rule, e := gas.Sure(c.C, c.S)
	l["Sure"] = result{[]any{rule}, e}
	var op api.GasOp
	if len(c.Ops) > 0 {
		op = c.Ops[0]
	}
	after, gone, e := gas.Do(c.C, c.S, op)
	l["Do"] = result{[]any{after, gone}, e}
	states, stopped, e := gas.Steps(c.C, c.S, c.Ops)
	l["Steps"] = result{[]any{states, stopped}, e}
	end, out, e := gas.Play(c.C, c.P, c.Ops, c.Shares, c.Wets)
	l["Play"] = result{[]any{end, out}, e}
	room, e := gas.Room(c.C, c.S, c.Lot)
	l["Room"] = result{[]any{room}, e}
	working, e := gas.Working(c.C, c.S, c.Unit)
	l["Working"] = result{[]any{working}, e}
	lots, e := gas.Purge(c.C, c.S, c.Lot)
	l["Purge"] = result{[]any{lots}, e}
	return l
}

func exampleCall() call {
	c := call{C: example(), S: exampleState(), P: point(2000, 100, 3000, 50000), Lot: exampleLot(), Unit: 10}
	c.Ops = []api.GasOp{inject(exampleLot()), rest(span(100, 200), span(10, 20)), withdraw(220)}
	c.Shares, c.Wets = []int{0, 150, 0}, []int{0, 15, 0}
	return c
}

func (c call) copy() call {
	c.Ops, c.Shares, c.Wets = slices.Clone(c.Ops), slices.Clone(c.Shares), slices.Clone(c.Wets)
	return c
}

// numbers returns all numbers of a value.
func numbers(v reflect.Value) []reflect.Value {
	var l []reflect.Value
	switch v.Kind() {
	case reflect.Int:
		l = append(l, v)
	case reflect.Struct:
		for i := range v.NumField() {
			l = append(l, numbers(v.Field(i))...)
		}
	case reflect.Array, reflect.Slice:
		for i := range v.Len() {
			l = append(l, numbers(v.Index(i))...)
		}
	}
	return l
}

// change changes some numbers, and sometimes the lists.
func (c *call) change(r *rand.Rand) {
	all := numbers(reflect.ValueOf(c).Elem())
	odd := []int{math.MinInt, math.MinInt + 1, -1, 0, 1, 2, 3, 4, 20, 21, 100, 101, 500, 1000, 1001, 2000, 5000, 5001, 100000, 1000000, 1000001, 2000000, 2000001, 1000000000, 1000000001, math.MaxInt32, math.MaxInt - 1, math.MaxInt}
	for range r.Intn(4) {
		n := all[r.Intn(len(all))]
		n.SetInt(int64(odd[r.Intn(len(odd))]))
		if r.Intn(2) == 0 {
			n.SetInt(int64(r.Intn(3000)))
		}
	}
	switch r.Intn(8) {
	case 0:
		c.Ops = c.Ops[:r.Intn(len(c.Ops)+1)]
	case 1:
		c.Shares, c.Wets = nil, nil
	case 2:
		for range r.Intn(4) {
			c.Ops, c.Shares, c.Wets = append(c.Ops, c.Ops...), append(c.Shares, c.Shares...), append(c.Wets, c.Wets...)
		}
	}
}

// P0.1: every function ends without a panic; two equal calls have equal results (R8); no argument is changed (R4); with an error all else is zero (R2).
func TestAnyArguments(t *testing.T) {
	r := rand.New(rand.NewSource(10))
	errors := map[api.Errno]int{}
	for range 1500 {
		c := exampleCall()
		c.change(r)
		as := c.copy()
		results := c.do()
		if !reflect.DeepEqual(c, as) {
			t.Fatal("an argument was changed", c, as)
		}
		if again := c.do(); !reflect.DeepEqual(results, again) {
			t.Fatal(c, results, again)
		}
		for name, x := range results {
			errors[x.e]++
			for _, v := range x.values {
				if x.e != api.OK && !reflect.ValueOf(v).IsZero() {
					t.Fatal(name, c, x)
				}
			}
		}
	}
	for _, e := range []api.Errno{api.OK, api.ErrArg, api.ErrLong, api.ErrNone, api.ErrRule} {
		if errors[e] == 0 {
			t.Error("the calls are not mixed", errors)
		}
	}
}

// P0.1: so it is with arguments of which each number is anything.
func TestWildArguments(t *testing.T) {
	r := rand.New(rand.NewSource(11))
	for range 2000 {
		c := exampleCall()
		for _, n := range numbers(reflect.ValueOf(&c).Elem()) {
			n.SetInt(int64(r.Uint64()) >> r.Intn(64))
		}
		c.do()
	}
}

// P0.1: so it is with the zero values.
func TestZeroArguments(t *testing.T) {
	for name, x := range (call{}).do() {
		if x.e != api.ErrArg {
			t.Error(name, x)
		}
	}
}

// P0.1: no number gets too great, and all is as exact as the chapter says.
func TestGreatestArguments(t *testing.T) {
	c := api.GasCavern{Volume: exactly(1), Most: api.GasPressure, Factors: [2]int{2000, 2000}, Heats: [2]int{100, 100}, Rock: api.GasHot, Purity: span(0, 1000)}
	p := point(api.GasMoles, api.GasMoles, api.GasHot, api.GasWater)
	if rule, e := gas.Sure(c, only(p)); e != api.OK || rule != api.GasHigh {
		t.Error(rule, e)
	}
	c.Volume, c.Least = exactly(api.GasVolume), 16629
	if rule, e := gas.Sure(c, only(p)); e != api.OK || rule != api.GasLow {
		t.Error(rule, e)
	}
	c.Least, c.Most = 16628, 16628
	if rule, e := gas.Sure(c, only(p)); e != api.OK || rule != api.GasFine {
		t.Error(rule, e)
	}
	if n, e := gas.Room(c, only(point(0, 0, api.GasCold, 0)), p); e != api.OK || n != 1 {
		t.Error(n, e)
	}
	half := point(api.GasMoles/2, api.GasMoles/2, api.GasCold, api.GasWater/2)
	if n, e := gas.Room(c, only(half), point(api.GasMoles, 0, api.GasHot, 0)); e != api.OK || n != 0 {
		t.Error(n, e)
	}
	lot := point(api.GasMoles/2, api.GasMoles/2, api.GasHot, api.GasWater/2)
	if s, _, e := gas.Do(c, only(half), inject(lot)); e != api.OK || s != only(point(api.GasMoles, api.GasMoles, 3500, api.GasWater)) {
		t.Error(s, e)
	}
	if s, out, e := gas.Do(c, only(p), withdraw(2*api.GasMoles)); e != api.OK || s != only(point(0, 0, api.GasHot, 0)) || out.Water != exactly(api.GasWater) {
		t.Error(s, out, e)
	}
}

// R4: results share no memory with each other.
func TestResultsAreTheirOwn(t *testing.T) {
	ops := []api.GasOp{withdraw(1), withdraw(2)}
	a, _, _ := gas.Steps(example(), exampleState(), ops)
	b, _, _ := gas.Steps(example(), exampleState(), ops)
	a[0], a[1] = api.GasState{}, api.GasState{}
	if c, _, _ := gas.Steps(example(), exampleState(), ops); !slices.Equal(b, c) {
		t.Error(b, c)
	}
}
