package book_test

import (
	"math"
	"math/rand"
	"reflect"
	"slices"
	"testing"

	"saltdome/api"
	"saltdome/book"
)

// call is a call of every function with some arguments.
type call struct {
	S           api.BookStore
	Offers      []api.BookContract
	X           api.BookState
	D           api.BookDay
	Wants       []int
	Hours       api.Span
	A, B, In, O int
	text        string
}

// result is what a function returned.
type result struct {
	values []any
	e      api.Errno
}

func (c call) do() map[string]result {
	l := map[string]result{}
	l["Check"] = result{nil, book.Check(c.S)}
	free, e := book.Free(c.S, c.Hours)
	l["Free"] = result{[]any{free}, e}
	sale, worth, e := book.Sell(c.S, c.Offers)
	l["Sell"] = result{[]any{sale, worth}, e}
	var first api.BookContract
	if len(c.S.Contracts) > 0 {
		first = c.S.Contracts[0]
	}
	in, out, e := book.Rate(first, c.In)
	l["Rate"] = result{[]any{in, out}, e}
	last, e := book.Counts(c.S, c.D.Noms, c.A, c.B)
	l["Counts"] = result{[]any{last}, e}
	grants, e := book.Grant(c.S, c.Wants, c.In, c.O)
	l["Grant"] = result{[]any{grants}, e}
	begun, e := book.Begin(c.S)
	l["Begin"] = result{[]any{begun}, e}
	next, flow, e := book.Step(c.S, c.X, c.D)
	l["Step"] = result{[]any{next, flow}, e}
	end, flows, e := book.Run(c.S, c.D)
	l["Run"] = result{[]any{end, flows}, e}
	text, e := book.Print(c.D)
	l["Print"] = result{[]any{text}, e}
	read, e := book.Read(c.text)
	l["Read"] = result{[]any{read}, e}
	return l
}

func exampleCall() call {
	c := call{S: exampleStore(), X: api.BookState{Hour: 3, Gas: []int{500, 50, 20}, Own: -5, Fuel: 7, Bills: []int{3, -2, 1}, Owed: []api.BookTrade{loan(1, 3, 0, 1, 60), loan(2, 5, 1, 0, 10)}}}
	c.Offers = []api.BookContract{contract(false, 1, 0), with(c.S.Contracts[0], func(c *api.BookContract) { c.Hours = span(10, 20) })}
	c.D = api.BookDay{Hours: slices.Repeat([]api.BookHour{hour(120, 100, 110, 30)}, 5)}
	c.D.Noms = []api.BookNom{nom(0, 3, 1, 80), nom(1, 3, 0, -90), nom(2, 3, 1, 40), nom(2, 4, 2, -40)}
	c.D.Trades = []api.BookTrade{trade(3, 0, 1, 40), loan(3, 4, 1, 0, 10), trade(2, 2, 1, 40)}
	c.Wants, c.Hours, c.A, c.B, c.In, c.O = []int{60, -90, 40}, span(0, 9), 0, 3, 120, 100
	c.text = mixedFile
	return c
}

func (c call) copied() call {
	c.S, c.X, c.D = copied(c.S), copiedState(c.X), copiedDay(c.D)
	c.Offers, c.Wants = copiedContracts(c.Offers), slices.Clone(c.Wants)
	return c
}

// numbers returns all numbers of a value.
func numbers(v reflect.Value) []reflect.Value {
	var l []reflect.Value
	switch v.Kind() {
	case reflect.Int:
		l = append(l, v)
	case reflect.Struct:
		for i := range v.NumField() {
			l = append(l, numbers(v.Field(i))...)
		}
	case reflect.Slice:
		for i := range v.Len() {
			l = append(l, numbers(v.Index(i))...)
		}
	}
	return l
}

// mix changes numbers and lists of a call.
func (c *call) mix(r *rand.Rand) {
	odd := []int{math.MinInt, math.MinInt + 1, -2, -1, 0, 1, 2, 3, 5, 9, 40, 47, 48, 49, 400, 1000, 1001, api.BookPrice, api.BookKilos, api.BookKilos + 1, mostFlow, mostFlow + 1, math.MaxInt - 1, math.MaxInt}
	all := numbers(reflect.ValueOf(c).Elem())
	c.A, c.B = r.Intn(3), 3+r.Intn(2)
	for range r.Intn(4) {
		all[r.Intn(len(all))].SetInt(int64(odd[r.Intn(len(odd))]))
	}
	i := r.Intn(3)
	c.S.Contracts[i].Firm = r.Intn(2) == 0
	switch r.Intn(16) {
	case 0:
		c.S.Contracts = c.S.Contracts[:r.Intn(3)]
	case 1:
		c.S.Contracts = slices.Repeat(c.S.Contracts, r.Intn(4))
	case 2:
		c.S.Contracts[i].Rates = nil
	case 3:
		c.Offers = slices.Repeat(c.Offers, r.Intn(6))
	case 4:
		c.D.Hours = slices.Repeat(c.D.Hours, r.Intn(11))
	case 5:
		c.D.Noms = slices.Repeat(c.D.Noms, r.Intn(52))
	case 6:
		c.D.Trades = slices.Repeat(c.D.Trades, r.Intn(18))
	case 7:
		c.X.Owed = slices.Repeat(c.X.Owed, r.Intn(27))
	case 8:
		c.X.Gas = c.X.Gas[:r.Intn(3)]
	case 9:
		c.X.Bills = c.X.Bills[:r.Intn(3)]
	case 10:
		c.Wants = slices.Repeat(c.Wants, r.Intn(3))
	case 11:
		c.X.Hour, c.X.Owed = 5, nil
	}
	c.mixText(r)
}

// mixText changes the text of a call.
func (c *call) mixText(r *rand.Rand) {
	b := []byte(c.text)
	for range r.Intn(3) {
		b[r.Intn(len(b))] = " \n0123459-inhourdaytlxe\xff"[r.Intn(24)]
	}
	i, j := r.Intn(len(b)+1), r.Intn(len(b)+1)
	switch r.Intn(6) {
	case 0:
		b = b[min(i, j):max(i, j)]
	case 1:
		b = append(b[:i], b[j:]...)
	case 2:
		b = slices.Repeat(b, r.Intn(200))
	}
	c.text = string(b)
}

// P0.1, R2, R4, R8: every function returns, whatever its arguments are; it changes none of them, with an error it returns nothing else, and again the same.
func TestAnyArguments(t *testing.T) {
	r := rand.New(rand.NewSource(70))
	counts := map[api.Errno]int{}
	for range 5000 {
		c := exampleCall()
		c.mix(r)
		before := c.copied()
		done, again := c.do(), c.do()
		if !reflect.DeepEqual(done, again) || !same(before, c) {
			t.Fatal(before, c, done, again)
		}
		for f, got := range done {
			counts[got.e]++
			for _, v := range got.values {
				if got.e != api.OK && !same(v, reflect.Zero(reflect.TypeOf(v)).Interface()) {
					t.Fatal(f, c, got)
				}
			}
		}
	}
	for _, e := range []api.Errno{api.OK, api.ErrArg, api.ErrLong, api.ErrText, api.ErrNone, api.ErrState} {
		if counts[e] < 100 {
			t.Error("the arguments are not mixed", counts)
		}
	}
}

// P0.1: so it is with arguments of which each number is anything.
func TestWildArguments(t *testing.T) {
	r := rand.New(rand.NewSource(71))
	for range 3000 {
		c := exampleCall()
		for _, n := range numbers(reflect.ValueOf(&c).Elem()) {
			n.SetInt(int64(r.Uint64()) >> r.Intn(64))
		}
		c.do()
	}
}

// P0.1, R3: so it is with the zero values. A store with nothing is one, and a day with nothing.
func TestZeroArguments(t *testing.T) {
	want := map[string]api.Errno{"Rate": api.ErrArg, "Counts": api.ErrArg, "Step": api.ErrState, "Read": api.ErrText}
	for name, x := range (call{}).do() {
		if x.e != want[name] {
			t.Error(name, x)
		}
	}
	empty := call{S: api.BookStore{Contracts: []api.BookContract{}}, Offers: []api.BookContract{}, Wants: []int{}}
	empty.X = api.BookState{Gas: []int{}, Bills: []int{}, Owed: []api.BookTrade{}}
	empty.D = api.BookDay{Hours: []api.BookHour{}, Noms: []api.BookNom{}, Trades: []api.BookTrade{}}
	for name, x := range empty.do() {
		if x.e != want[name] {
			t.Error(name, x)
		}
	}
}

// scramble changes all numbers of a value, and what lies behind its lists.
func scramble(v reflect.Value) {
	switch v.Kind() {
	case reflect.Int:
		v.SetInt(v.Int() + 77)
	case reflect.Struct:
		for i := range v.NumField() {
			scramble(v.Field(i))
		}
	case reflect.Slice:
		all := v.Slice(0, v.Cap())
		for i := range all.Len() {
			scramble(all.Index(i))
		}
	}
}

// P0.1, R4: what is returned shares no memory with arguments, nor with itself.
func TestResultsShareNoMemory(t *testing.T) {
	c := exampleCall()
	c.X.Hour = 3
	before := c.copied()
	x, f, e := book.Step(c.S, c.X, c.D)
	y, l, ee := book.Run(c.S, c.D)
	if e != api.OK || ee != api.OK || len(l) != 5 || len(x.Owed) == 0 {
		t.Fatal(x, f, y, l, e, ee)
	}
	again, _, _ := book.Run(c.S, c.D)
	flows := slices.Clone(l)
	for i := range l {
		flows[i].Wants, flows[i].Grants, flows[i].Flows, flows[i].Refused = slices.Clone(l[i].Wants), slices.Clone(l[i].Grants), slices.Clone(l[i].Flows), slices.Clone(l[i].Refused)
	}
	scramble(reflect.ValueOf(&x).Elem())
	scramble(reflect.ValueOf(&f).Elem())
	scramble(reflect.ValueOf(&l[2]).Elem())
	if !same(before, c) || !same(y, again) {
		t.Error(before, c, y, again)
	}
	for i := range l {
		if i != 2 && !same(l[i], flows[i]) {
			t.Error(i, l[i], flows[i])
		}
	}
	scramble(reflect.ValueOf(&l[3].Grants).Elem())
	if !slices.Equal(l[3].Wants, flows[3].Wants) || !slices.Equal(l[3].Flows, flows[3].Flows) {
		t.Error(l[3], flows[3])
	}
	begun, _ := book.Begin(c.S)
	scramble(reflect.ValueOf(&begun).Elem())
	grants, _ := book.Grant(c.S, c.Wants, 1000, 1000)
	scramble(reflect.ValueOf(&grants).Elem())
	if !same(before, c) {
		t.Error(before, c)
	}
}

// P0.1, R4: a list of contracts with room behind it stays as it is when offers are sold.
func TestRoomBehindContracts(t *testing.T) {
	l := append(make([]api.BookContract, 0, 8), contract(false, 1, 0))
	s := storeOf(l...)
	s.Contracts = l
	if sale, _, e := book.Sell(s, []api.BookContract{offer(1, 1), offer(2, 2)}); e != api.OK || len(sale) != 2 {
		t.Error(sale, e)
	}
	if behind := l[1:3]; !same(behind, make([]api.BookContract, 2)) {
		t.Error(behind)
	}
}
