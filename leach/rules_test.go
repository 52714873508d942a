package leach_test

import (
	"math"
	"math/rand"
	"reflect"
	"slices"
	"testing"

	"saltdome/api"
	"saltdome/leach"
)

// P1.8: the order of stages does not change the shape behind them.
func TestOrderOfStages(t *testing.T) {
	r := rand.New(rand.NewSource(51))
	for range 200 {
		c := small(r, 2+r.Intn(9))
		stages := smallStages(r, len(c.Slices), 1+r.Intn(api.LeachStages))
		mixed := slices.Clone(stages)
		r.Shuffle(len(mixed), func(i, j int) { mixed[i], mixed[j] = mixed[j], mixed[i] })
		x, e := leach.After(c, stages)
		y, f := leach.After(c, mixed)
		if e != api.OK || f != api.OK || !reflect.DeepEqual(x, y) {
			t.Fatal(c, stages, mixed, x, y)
		}
	}
}

// P1.8: rates and volumes that are known better never make bounds wider.
func TestKnownBetter(t *testing.T) {
	r := rand.New(rand.NewSource(52))
	narrow := func(s *api.Span) {
		s.Low += r.Intn(s.High - s.Low + 1)
		s.High -= r.Intn(s.High - s.Low + 1)
	}
	inside := func(s, in api.Span) bool { return in.Low <= s.Low && s.High <= in.High }
	for range 400 {
		c := small(r, 2+r.Intn(9))
		for i := range c.Slices {
			c.Slices[i].Rate.High += r.Intn(4)
		}
		better := copyCavern(c)
		for i := range better.Slices {
			narrow(&better.Slices[i].Volume)
			narrow(&better.Slices[i].Rate)
		}
		stages := smallStages(r, len(c.Slices), 1+r.Intn(4))
		x, _ := leach.After(c, stages)
		y, _ := leach.After(better, stages)
		ok := inside(y.Sump, x.Sump)
		for i := range c.Slices {
			ok = ok && inside(y.Salt[i], x.Salt[i]) && inside(y.Volumes[i], x.Volumes[i])
		}
		weights := make([]int, len(c.Slices))
		for i := range weights {
			weights[i] = r.Intn(2001) - 1000
		}
		s, _ := leach.Bound(c, stages, weights, 1000)
		narrower, _ := leach.Bound(better, stages, weights, 1000)
		if !ok || !inside(narrower, s) {
			t.Fatal(c, better, stages, x, y, s, narrower)
		}
	}
}

// P1.8: water more never makes a slice smaller.
func TestMoreWater(t *testing.T) {
	r := rand.New(rand.NewSource(53))
	for range 400 {
		c := small(r, 2+r.Intn(9))
		stages := smallStages(r, len(c.Slices), 1+r.Intn(4))
		more := slices.Clone(stages)
		more[r.Intn(len(more))].Water += 1 + r.Intn(5)
		truth := api.LeachTruth{}
		for _, s := range c.Slices {
			truth.Volumes = append(truth.Volumes, s.Volume.Low)
		}
		for range stages {
			var rates []int
			for _, s := range c.Slices {
				rates = append(rates, s.Rate.Low+r.Intn(s.Rate.High-s.Rate.Low+1))
			}
			truth.Rates = append(truth.Rates, rates)
		}
		x, _ := leach.After(c, stages)
		y, _ := leach.After(c, more)
		v, _ := leach.Play(c, stages, truth)
		w, _ := leach.Play(c, more, truth)
		for i := range c.Slices {
			if y.Volumes[i].Low < x.Volumes[i].Low || y.Volumes[i].High < x.Volumes[i].High || w.Volumes[i] < v.Volumes[i] {
				t.Fatal(c, stages, more, x, y, v, w)
			}
		}
	}
}

// call is a call of every function with some arguments.
type call struct {
	c       api.LeachCavern
	stages  []api.LeachStage
	weights []int
	sump    int
	truth   api.LeachTruth
	want    []int
	text    string
}

// result is what a function returned.
type result struct {
	values []any
	e      api.Errno
}

func (x call) do() map[string]result {
	l := map[string]result{}
	l["Check"] = result{nil, leach.Check(x.c)}
	var s api.LeachStage
	if len(x.stages) > 0 {
		s = x.stages[0]
	}
	rates, e := leach.Rates(x.c, s)
	l["Rates"] = result{[]any{rates}, e}
	shape, e := leach.After(x.c, x.stages)
	l["After"] = result{[]any{shape}, e}
	bound, e := leach.Bound(x.c, x.stages, x.weights, x.sump)
	l["Bound"] = result{[]any{bound}, e}
	end, e := leach.Play(x.c, x.stages, x.truth)
	l["Play"] = result{[]any{end}, e}
	low, high, e := leach.Grade(x.c, s)
	l["Grade"] = result{[]any{low, high}, e}
	stage, rule, of, e := leach.Fault(x.c, x.stages)
	l["Fault"] = result{[]any{stage, rule, of}, e}
	plan, e := leach.Plan(x.c, x.stages, x.want)
	l["Plan"] = result{[]any{plan}, e}
	least, e := leach.Least(x.c, x.stages, x.want)
	l["Least"] = result{[]any{least}, e}
	text, e := leach.Print(x.c)
	l["Print"] = result{[]any{text}, e}
	cavern, e := leach.Read(x.text)
	l["Read"] = result{[]any{cavern}, e}
	return l
}

func exampleCall() call {
	t := exampleTruth()
	t.Rates = append(t.Rates, []int{20, 31, 41})
	return call{c: example(), stages: []api.LeachStage{stageA(), stageB()}, weights: []int{1, -2, 3}, sump: 4, truth: t, want: []int{1100000, 1300000, 0}, text: exampleLog}
}

// numbers returns where the numbers of a call are.
func (x *call) numbers() []*int {
	l := []*int{&x.c.Hold, &x.c.Oil, &x.sump}
	for i := range x.c.Slices {
		s := &x.c.Slices[i]
		l = append(l, &s.Volume.Low, &s.Volume.High, &s.Open, &s.Fall, &s.Rate.Low, &s.Rate.High, &s.Most)
	}
	for i := range x.stages {
		s := &x.stages[i]
		l = append(l, &s.Water, &s.In, &s.Out, &s.Blanket)
	}
	for _, numbers := range append([][]int{x.weights, x.want, x.truth.Volumes}, x.truth.Rates...) {
		for i := range numbers {
			l = append(l, &numbers[i])
		}
	}
	return l
}

// cut makes one of the lists of a call shorter, longer or empty.
func (x *call) cut(r *rand.Rand) {
	switch r.Intn(9) {
	case 0:
		x.c.Slices = x.c.Slices[:r.Intn(len(x.c.Slices)+1)]
	case 1:
		x.c.Slices = append(x.c.Slices, x.c.Slices...)
	case 2:
		x.stages = x.stages[:r.Intn(len(x.stages)+1)]
	case 3:
		x.stages = slices.Repeat(x.stages, r.Intn(8))
	case 4:
		x.weights = x.weights[:r.Intn(len(x.weights)+1)]
	case 5:
		x.want = append(x.want, 0)
	case 6:
		x.truth.Rates = x.truth.Rates[:r.Intn(len(x.truth.Rates)+1)]
	case 7:
		x.truth.Rates = append(x.truth.Rates, nil)
	case 8:
		i := r.Intn(len(x.text) + 1)
		x.text = x.text[:i] + string(rune(r.Intn(300))) + x.text[i:]
	}
}

// isZero reports whether a value is its zero value, or an empty list.
func isZero(v any) bool {
	r := reflect.ValueOf(v)
	return r.IsZero() || r.Kind() == reflect.Slice && r.Len() == 0
}

// P0.1 (salt), R2, R8: every function returns, whatever its arguments are; with an error it returns nothing else, and again the same.
func TestAnyArguments(t *testing.T) {
	values := []int{math.MinInt, math.MinInt + 1, -1001, -1, 0, 1, 2, 3, 4, 97, 300, 301, 999, 1000, 3000, 3001, 1000000, 1000001, api.LeachVolume, api.LeachVolume + 1, math.MaxInt - 1, math.MaxInt}
	r := rand.New(rand.NewSource(54))
	for range 6000 {
		x := exampleCall()
		l := x.numbers()
		for range r.Intn(4) {
			*l[r.Intn(len(l))] = values[r.Intn(len(values))]
		}
		if r.Intn(3) == 0 {
			x.cut(r)
		}
		done, again := x.do(), x.do()
		if !reflect.DeepEqual(done, again) {
			t.Fatal(x, done, again)
		}
		for f, got := range done {
			for _, v := range got.values {
				if got.e != api.OK && !isZero(v) {
					t.Fatal(f, x, got)
				}
			}
		}
	}
	(call{}).do()
}

// R4: no argument is changed, and no result shares memory with one, or with another result.
func TestMemory(t *testing.T) {
	x := exampleCall()
	done := x.do()
	if want := exampleCall(); !reflect.DeepEqual(x, want) {
		t.Error("an argument was changed", x)
	}
	for _, got := range x.do() {
		for _, v := range got.values {
			spoil(reflect.ValueOf(v))
		}
	}
	if want := exampleCall(); !reflect.DeepEqual(x, want) {
		t.Error("a result shares memory with an argument", x)
	}
	if again := x.do(); !reflect.DeepEqual(done, again) {
		t.Error("results share memory", done, again)
	}
}

// spoil overwrites all that lists of a result hold.
func spoil(v reflect.Value) {
	switch v.Kind() {
	case reflect.Struct:
		for i := range v.NumField() {
			spoil(v.Field(i))
		}
	case reflect.Slice:
		for i := range v.Len() {
			v.Index(i).SetZero()
		}
	}
}
