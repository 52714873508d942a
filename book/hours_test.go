package book_test

import (
	"math/rand"
	"slices"
	"testing"

	"saltdome/api"
	"saltdome/book"
)

// stepped returns what an hour leads to.
func stepped(t *testing.T, s api.BookStore, x api.BookState, d api.BookDay) (api.BookState, api.BookFlow) {
	t.Helper()
	y, f, e := book.Step(s, x, d)
	if e != api.OK {
		t.Fatal(s, x, d, e)
	}
	return y, f
}

// begun returns the state at first.
func begun(t *testing.T, s api.BookStore) api.BookState {
	t.Helper()
	x, e := book.Begin(s)
	if e != api.OK {
		t.Fatal(s, e)
	}
	return x
}

// ran returns what a day leads to.
func ran(t *testing.T, s api.BookStore, d api.BookDay) (api.BookState, []api.BookFlow) {
	t.Helper()
	x, l, e := book.Run(s, d)
	if e != api.OK {
		t.Fatal(s, d, e)
	}
	return x, l
}

// P6.3
func TestBegin(t *testing.T) {
	for i, x := range []struct {
		s    api.BookStore
		want api.BookState
	}{
		{exampleStore(), api.BookState{Gas: []int{400, 100, 0}, Bills: []int{0, 0, 0}}},
		{storeOf(), api.BookState{}},
	} {
		if y, e := book.Begin(x.s); e != api.OK || !same(y, x.want) {
			t.Error(i, y, e)
		}
	}
	for _, b := range badStores() {
		s := exampleStore()
		b.change(&s)
		if y, e := book.Begin(s); e != api.ErrArg || !same(y, api.BookState{}) {
			t.Error(b.name, y, e)
		}
	}
}

// P6.3, P6.4: the example of the chapter.
func TestExampleDay(t *testing.T) {
	x, l := ran(t, promptStore(), exampleDay())
	if !same(x, api.BookState{Hour: 1, Gas: []int{455, 137, 18}, Bills: []int{115, 38, 19}}) {
		t.Error(x)
	}
	if !same(l, []api.BookFlow{{Wants: []int{60, 90, 40}, Grants: []int{60, 41, 19}, Flows: []int{55, 37, 18}}}) {
		t.Error(l)
	}
	x, l = ran(t, exampleStore(), exampleDay())
	if !same(x, api.BookState{Hour: 1, Gas: []int{400, 100, 0}, Own: 110, Bills: []int{5, 1, 1}}) {
		t.Error(x)
	}
	if !same(l, []api.BookFlow{{Wants: []int{0, 0, 0}, Grants: []int{0, 0, 0}, Flows: []int{0, 0, 0}}}) {
		t.Error(l)
	}
}

// two returns a store of two contracts with room for 100 each, of which the first one has so much gas, and the second one so much.
func two(first, second int) api.BookStore {
	return storeOf(contract(false, 100, first), contract(false, 100, second))
}

// owing returns the state of a store in an hour with loans.
func owing(t *testing.T, s api.BookStore, hour int, l ...api.BookTrade) api.BookState {
	x := begun(t, s)
	x.Hour, x.Owed = hour, l
	return x
}

// P6.3, P6.5: loans are given back in their hour, in order; what is not there is paid for, what there is no room for is not given.
func TestLoansAreGivenBack(t *testing.T) {
	for i, x := range []struct {
		first, second int
		l             []api.BookTrade
		gas, bills    []int
		owed          []api.BookTrade
	}{
		{10, 50, []api.BookTrade{loan(1, 3, 0, 1, 20)}, []int{30, 30}, []int{0, 0}, nil},
		{10, 50, []api.BookTrade{loan(1, 4, 0, 1, 20)}, []int{10, 50}, []int{0, 0}, []api.BookTrade{loan(1, 4, 0, 1, 20)}},
		{10, 20, []api.BookTrade{loan(1, 3, 0, 1, 20)}, []int{30, 0}, []int{0, 0}, nil},
		{10, 20, []api.BookTrade{loan(1, 3, 0, 1, 21)}, []int{30, 0}, []int{-7, 7}, nil},
		{10, 0, []api.BookTrade{loan(1, 3, 0, 1, 20)}, []int{10, 0}, []int{-140, 140}, nil},
		{90, 50, []api.BookTrade{loan(1, 3, 0, 1, 20)}, []int{100, 40}, []int{0, 0}, nil},
		{100, 50, []api.BookTrade{loan(1, 3, 0, 1, 20)}, []int{100, 50}, []int{0, 0}, nil},
		// neither the gas nor the room: the room is not paid for
		{95, 15, []api.BookTrade{loan(1, 3, 0, 1, 20)}, []int{100, 10}, []int{-35, 35}, nil},
		// the price is that of the one who owes
		{50, 10, []api.BookTrade{loan(1, 3, 1, 0, 60)}, []int{0, 60}, []int{50, -50}, nil},
		// one after the other
		{10, 50, []api.BookTrade{loan(2, 3, 0, 1, 30), loan(1, 3, 0, 1, 30)}, []int{60, 0}, []int{-70, 70}, nil},
		{0, 5, []api.BookTrade{loan(1, 3, 0, 1, 10), loan(1, 3, 1, 0, 5)}, []int{0, 5}, []int{-35, 35}, nil},
		{0, 5, []api.BookTrade{loan(1, 3, 1, 0, 5), loan(1, 3, 0, 1, 10)}, []int{5, 0}, []int{25 - 35, 35 - 25}, nil},
		{10, 50, []api.BookTrade{loan(2, 5, 0, 1, 1), loan(2, 3, 0, 1, 2), loan(0, 4, 1, 0, 3), loan(5, 6, 1, 0, 4)}, []int{12, 48}, []int{0, 0}, []api.BookTrade{loan(2, 5, 0, 1, 1), loan(0, 4, 1, 0, 3), loan(5, 6, 1, 0, 4)}},
	} {
		s := two(x.first, x.second)
		s.Contracts[0].Lack, s.Contracts[1].Lack = 5, 7
		y, f := stepped(t, s, owing(t, s, 3, x.l...), open(4))
		if !same(y, api.BookState{Hour: 4, Gas: x.gas, Bills: x.bills, Owed: x.owed}) || len(f.Refused) > 0 {
			t.Error(i, y, f)
		}
	}
}

// P6.3: trades in their hour, in order; refused ones change nothing.
func TestTrades(t *testing.T) {
	for i, x := range []struct {
		first, second int
		l             []api.BookTrade
		gas           []int
		refused       []int
		owed          []api.BookTrade
	}{
		{10, 50, []api.BookTrade{trade(3, 1, 0, 20)}, []int{30, 30}, nil, nil},
		{10, 50, []api.BookTrade{trade(2, 1, 0, 20), trade(4, 1, 0, 20)}, []int{10, 50}, nil, nil},
		{10, 50, []api.BookTrade{trade(3, 1, 0, 50)}, []int{60, 0}, nil, nil},
		{10, 50, []api.BookTrade{trade(3, 1, 0, 51)}, []int{10, 50}, []int{0}, nil},
		{80, 50, []api.BookTrade{trade(3, 1, 0, 20)}, []int{100, 30}, nil, nil},
		{80, 50, []api.BookTrade{trade(3, 1, 0, 21)}, []int{80, 50}, []int{0}, nil},
		{10, 50, []api.BookTrade{trade(3, 0, 1, 30), trade(9, 0, 1, 30), trade(3, 1, 0, 40), trade(3, 0, 1, 30), trade(3, 0, 1, 21)}, []int{20, 40}, []int{0, 4}, nil},
		{10, 50, []api.BookTrade{loan(3, 4, 1, 0, 20)}, []int{30, 30}, nil, []api.BookTrade{loan(3, 4, 1, 0, 20)}},
		{10, 50, []api.BookTrade{loan(3, 4, 1, 0, 51), loan(3, 47, 1, 0, 5), loan(2, 4, 1, 0, 5)}, []int{15, 45}, []int{0}, []api.BookTrade{loan(3, 47, 1, 0, 5)}},
	} {
		s := two(x.first, x.second)
		d := open(4)
		d.Trades = x.l
		y, f := stepped(t, s, owing(t, s, 3), d)
		if !same(y, api.BookState{Hour: 4, Gas: x.gas, Bills: []int{0, 0}, Owed: x.owed}) || !slices.Equal(f.Refused, x.refused) {
			t.Error(i, y, f)
		}
	}
}

// P6.3: no more loans are owed than there can be; those that are given back in the hour are not.
func TestManyLoans(t *testing.T) {
	s := two(100, 0)
	old := slices.Repeat([]api.BookTrade{loan(0, 9, 0, 1, 1)}, api.BookTrades-1)
	d := open(4)
	d.Trades = []api.BookTrade{loan(3, 5, 0, 1, 1), loan(3, 5, 0, 1, 2), trade(3, 0, 1, 3), loan(3, 6, 0, 1, 4)}
	y, f := stepped(t, s, owing(t, s, 3, old...), d)
	if !same(y.Gas, []int{96, 4}) || !slices.Equal(f.Refused, []int{1, 3}) || !same(y.Owed, append(slices.Clone(old), d.Trades[0])) {
		t.Error(y, f)
	}
	back := append([]api.BookTrade{loan(0, 3, 1, 0, 1)}, old...)
	y, f = stepped(t, s, owing(t, s, 3, back...), d)
	if !same(y.Gas, []int{95, 5}) || !slices.Equal(f.Refused, []int{1, 3}) || !same(y.Owed, append(slices.Clone(old), d.Trades[0])) {
		t.Error(y, f)
	}
}

// P6.3: what is nominated, as far as the rate, the gas and the room go.
func TestWants(t *testing.T) {
	c := api.BookContract{Space: 100, Hours: span(2, 3), Rates: []api.BookRate{rate(0, 30, 10), rate(500, 20, 15)}}
	for i, x := range []struct{ gas, amount, want int }{
		{40, 30, 30}, {40, 31, 30}, {40, 29, 29}, {40, 0, 0}, {40, -10, -10}, {40, -11, -10}, {40, -9, -9},
		{50, 30, 20}, {50, -30, -15}, {85, 30, 15}, {100, 30, 0}, {100, -api.BookKilos, -15}, {5, -30, -5}, {0, -30, 0}, {0, api.BookKilos, 30},
	} {
		for hour := range 5 {
			s := storeOf(with(c, func(c *api.BookContract) { c.Gas = x.gas }))
			d := open(5)
			d.Noms = []api.BookNom{nom(0, hour, 0, x.amount)}
			y, f := stepped(t, s, owing(t, s, hour), d)
			want := x.want
			if hour < 2 || hour > 3 {
				want = 0
			}
			if !same(f, api.BookFlow{Wants: []int{want}, Grants: []int{0}, Flows: []int{0}}) || !same(y.Gas, []int{x.gas}) {
				t.Error(i, hour, y, f)
			}
		}
	}
}

// P6.3: loans and trades of the hour are ahead of its wants.
func TestWantsBehindTrades(t *testing.T) {
	s := two(0, 90)
	d := open(4)
	d.Noms = []api.BookNom{nom(0, 3, 3, -100), nom(1, 3, 3, 100)}
	if _, f := stepped(t, s, owing(t, s, 3), d); !slices.Equal(f.Wants, []int{0, 10}) {
		t.Error(f)
	}
	d.Trades = []api.BookTrade{trade(3, 1, 0, 20)}
	if _, f := stepped(t, s, owing(t, s, 3, loan(0, 3, 0, 1, 30)), d); !slices.Equal(f.Wants, []int{-50, 60}) {
		t.Error(f)
	}
}

// P6.3: what flowed is shared among what was granted, the rest is the store's; fuel is taken from what flowed in; bills.
func TestFlows(t *testing.T) {
	firm := with(contract(true, 1000, 500), func(c *api.BookContract) { c.Fixed, c.In, c.Out, c.Cut = 100, 2, 3, 5 })
	loose := with(contract(false, 1000, 500), func(c *api.BookContract) { c.Fixed, c.In, c.Out, c.Cut = 10, 4, 7, 1000 })
	idle := with(firm, func(c *api.BookContract) { c.Hours = span(1, 47) })
	s := storeOf(firm, loose, idle)
	s.Fuel = 15
	for i, x := range []struct {
		hour       api.BookHour
		noms       [3]int
		flow       api.BookFlow
		gas, bills []int
		own, fuel  int
	}{
		{hour(300, 0, 300, 0), [3]int{100, 200, 300}, api.BookFlow{Wants: []int{100, 200, 0}, Grants: []int{100, 200, 0}, Flows: []int{100, 200, 0}}, []int{599, 697, 500}, []int{300, 810, 0}, 0, 4},
		{hour(300, 0, 301, 7), [3]int{100, 200, 0}, api.BookFlow{Wants: []int{100, 200, 0}, Grants: []int{100, 200, 0}, Flows: []int{100, 200, 0}}, []int{599, 697, 500}, []int{300, 810, 0}, 1 - 7, 4},
		{hour(300, 0, 100, 0), [3]int{100, 200, 0}, api.BookFlow{Wants: []int{100, 200, 0}, Grants: []int{100, 200, 0}, Flows: []int{33, 67, 0}}, []int{533, 566, 500}, []int{166, 278, 0}, 0, 1},
		{hour(90, 0, 300, 0), [3]int{100, 200, 0}, api.BookFlow{Wants: []int{100, 200, 0}, Grants: []int{90, 0, 0}, Flows: []int{90, 0, 0}}, []int{589, 500, 500}, []int{100 + 180 - 50, 10, 0}, 210, 1},
		{hour(0, 500, 0, 30), [3]int{-100, -200, -300}, api.BookFlow{Wants: []int{-100, -200, 0}, Grants: []int{-100, -200, 0}, Flows: []int{-10, -20, 0}}, []int{490, 480, 500}, []int{130, 150, 0}, 0, 0},
		{hour(0, 40, 0, 50), [3]int{-100, -200, 0}, api.BookFlow{Wants: []int{-100, -200, 0}, Grants: []int{-40, 0, 0}, Flows: []int{-40, 0, 0}}, []int{460, 500, 500}, []int{100 + 120 - 300, 10, 0}, -10, 0},
		{hour(50, 50, 60, 70), [3]int{100, -200, 0}, api.BookFlow{Wants: []int{100, -200, 0}, Grants: []int{50, -50, 0}, Flows: []int{50, -50, 0}}, []int{550, 450, 500}, []int{100 + 100 - 250, 10 + 350, 0}, 10 - 20, 0},
		{hour(mostFlow, mostFlow, mostFlow, 0), [3]int{}, api.BookFlow{Wants: []int{0, 0, 0}, Grants: []int{0, 0, 0}, Flows: []int{0, 0, 0}}, []int{500, 500, 500}, []int{100, 10, 0}, mostFlow, 0},
		{hour(mostFlow, mostFlow, 0, mostFlow), [3]int{0, -1, 0}, api.BookFlow{Wants: []int{0, -1, 0}, Grants: []int{0, -1, 0}, Flows: []int{0, -1, 0}}, []int{500, 499, 500}, []int{100, 17, 0}, 1 - mostFlow, 0},
	} {
		d := api.BookDay{Hours: []api.BookHour{x.hour}}
		for c, amount := range x.noms {
			d.Noms = append(d.Noms, nom(c, 0, 0, amount))
		}
		y, f := stepped(t, s, begun(t, s), d)
		if !same(f, x.flow) || !same(y, api.BookState{Hour: 1, Gas: x.gas, Own: x.own, Fuel: x.fuel, Bills: x.bills}) {
			t.Error(i, y, f)
		}
	}
}

// P6.3: fuel is rounded for each contract, and can be all that flowed in.
func TestFuel(t *testing.T) {
	s := storeOf(contract(false, 100, 0), contract(false, 100, 0), contract(false, 100, 50))
	d := api.BookDay{Hours: []api.BookHour{hour(99, 99, 99, 9)}, Noms: []api.BookNom{nom(0, 0, 0, 19), nom(1, 0, 0, 21), nom(2, 0, 0, -9)}}
	for fuel, want := range map[int][]int{0: {19, 21, 41, 0}, 50: {19, 20, 41, 1}, 999: {1, 1, 41, 38}, 1000: {0, 0, 41, 40}} {
		s.Fuel = fuel
		y, f := stepped(t, s, begun(t, s), d)
		if !slices.Equal(f.Flows, []int{19, 21, -9}) || !slices.Equal(y.Gas, want[:3]) || y.Fuel != want[3] || y.Own != 59 {
			t.Error(fuel, y, f)
		}
	}
}

// P6.3, R1: what is not as defined, and hours that the day does not have.
func TestStepOfNoState(t *testing.T) {
	s := exampleStore()
	l := slices.Repeat([]api.BookTrade{loan(0, 7, 0, 1, 1)}, api.BookTrades+1)
	for _, b := range []bad[api.BookState]{
		{"hour", func(x *api.BookState) { x.Hour = -1 }}, {"hours", func(x *api.BookState) { x.Hour = api.BookHours + 1 }},
		{"no gas", func(x *api.BookState) { x.Gas = nil }}, {"less gas", func(x *api.BookState) { x.Gas = x.Gas[:2] }}, {"more gas", func(x *api.BookState) { x.Gas = append(x.Gas, 0) }},
		{"gas", func(x *api.BookState) { x.Gas[2] = 601 }}, {"gas below", func(x *api.BookState) { x.Gas[0] = -1 }},
		{"own", func(x *api.BookState) { x.Own = 1000000000001 }}, {"own below", func(x *api.BookState) { x.Own = -1000000000001 }},
		{"fuel", func(x *api.BookState) { x.Fuel = 1000000000001 }}, {"fuel below", func(x *api.BookState) { x.Fuel = -1 }},
		{"no bills", func(x *api.BookState) { x.Bills = nil }}, {"less bills", func(x *api.BookState) { x.Bills = x.Bills[:2] }}, {"more bills", func(x *api.BookState) { x.Bills = append(x.Bills, 0) }},
		{"bills", func(x *api.BookState) { x.Bills[0] = 1000000000000001 }}, {"bills below", func(x *api.BookState) { x.Bills[2] = -1000000000000001 }},
		{"owed", func(x *api.BookState) { x.Owed = l }}, {"owed trade", func(x *api.BookState) { x.Owed = []api.BookTrade{l[0], trade(5, 0, 1, 1)} }}, {"owed before", func(x *api.BookState) { x.Owed = []api.BookTrade{l[0], loan(4, 5, 0, 1, 1)} }},
	} {
		x := owing(t, s, 6)
		b.change(&x)
		if y, f, e := book.Step(s, x, open(7)); e != api.ErrArg || !same(y, api.BookState{}) || !same(f, api.BookFlow{}) {
			t.Error(b.name, y, f, e)
		}
	}
	for i, bad := range badTrades() {
		x := owing(t, s, 0, bad)
		if y, f, e := book.Step(s, x, open(48)); e != api.ErrArg || !same(y, api.BookState{}) || !same(f, api.BookFlow{}) {
			t.Error(i, y, f, e)
		}
	}
	for hours, want := range map[int]api.Errno{0: api.ErrState, 5: api.ErrState, 6: api.ErrState, 7: api.OK, 48: api.OK} {
		if _, _, e := book.Step(s, owing(t, s, 6), open(hours)); e != want {
			t.Error(hours, e)
		}
	}
	if _, _, e := book.Step(s, owing(t, s, 48), open(48)); e != api.ErrState {
		t.Error(e)
	}
	if _, _, e := book.Step(s, owing(t, s, 48, loan(1, 47, 0, 1, 1)), open(48)); e != api.ErrArg {
		t.Error(e)
	}
	worst := api.BookState{Hour: 6, Gas: []int{1000, 400, 600}, Own: 1000000000000, Fuel: 1000000000000, Bills: []int{1000000000000000, -1000000000000000, 0}, Owed: l[:api.BookTrades]}
	if _, f, e := book.Step(s, worst, open(7)); e != api.OK || len(f.Wants) != 3 {
		t.Error(f, e)
	}
}

// P6.3, P6.4: stores and days that are not as defined.
func TestDaysThatAreNone(t *testing.T) {
	check := func(name any, s api.BookStore, x api.BookState, d api.BookDay) {
		t.Helper()
		if y, f, e := book.Step(s, x, d); e != api.ErrArg || !same(y, api.BookState{}) || !same(f, api.BookFlow{}) {
			t.Error(name, y, f, e)
		}
		if y, l, e := book.Run(s, d); e != api.ErrArg || !same(y, api.BookState{}) || len(l) > 0 {
			t.Error(name, y, l, e)
		}
	}
	fine := begun(t, exampleStore())
	for _, b := range badStores() {
		s := exampleStore()
		b.change(&s)
		check(b.name, s, fine, exampleDay())
	}
	for _, b := range badDays() {
		d := exampleDay()
		b.change(&d)
		check(b.name, exampleStore(), fine, d)
	}
	for i, n := range badNoms() {
		d := exampleDay()
		d.Noms = append(d.Noms, n)
		check(i, exampleStore(), fine, d)
	}
	for i, x := range badTrades() {
		d := exampleDay()
		d.Trades = append(d.Trades, x)
		check(i, exampleStore(), fine, d)
	}
	check("an hour that the day does not have", exampleStore(), fine, api.BookDay{Noms: badNoms()[:1]})
}

// greatDay returns a day of as many hours, nominations and trades as there can be, for a store with contracts.
func greatDay(r *rand.Rand, contracts, most int) api.BookDay {
	d := someDay(r, contracts, api.BookHours, most)
	d.Noms = someNoms(r, api.BookNoms, contracts, api.BookHours, most)
	d.Trades = someTrades(r, api.BookTrades, contracts, api.BookHours, most/2+1)
	return d
}

// P6.3, P6.4, P6.5, P0.6: all hours are as the chapter says; gas is neither lost nor made, bills close.
func TestDays(t *testing.T) {
	r := rand.New(rand.NewSource(66))
	refused, cut, back := 0, 0, 0
	for i := range 1500 {
		most := []int{4, 60, api.BookKilos / 4}[i%3]
		s := someStore(r, r.Intn(api.BookContracts+1), most)
		d := open(r.Intn(5))
		if n := len(s.Contracts); n > 1 && i%20 == 0 {
			d = greatDay(r, n, most)
		} else if n > 0 {
			d = someDay(r, n, 1+r.Intn(10), most)
		}
		end, flows := ran(t, s, d)
		x := begun(t, s)
		if !same(x, beginAsSaid(s)) || len(flows) != len(d.Hours) {
			t.Fatal(s, d, x, flows)
		}
		for hour := range d.Hours {
			y, f := stepped(t, s, x, d)
			if z, want := stepAsSaid(s, x, d); !same(y, z) || !same(f, want) || !same(flows[hour], f) {
				t.Fatal(s, x, d, "got", y, f, "want", z, want, "ran", flows[hour])
			}
			checkHour(t, s, x, y, f, d)
			refused += len(f.Refused)
			for i, want := range f.Wants {
				if f.Grants[i] != want {
					cut++
				}
			}
			back += max(0, len(x.Owed)-len(y.Owed))
			x = y
		}
		if !same(x, end) {
			t.Fatal(s, d, x, end)
		}
		checkEnd(t, s, d, end)
	}
	if refused < 500 || cut < 500 || back < 200 {
		t.Error("the days are not mixed", refused, cut, back)
	}
}

// takesPart reports whether a contract takes part in a trade or a loan that is given back in the hour of a state.
func takesPart(x api.BookState, d api.BookDay, contract int) bool {
	has := func(l api.BookTrade) bool { return l.From == contract || l.To == contract }
	return slices.ContainsFunc(x.Owed, func(l api.BookTrade) bool { return l.Back == x.Hour && has(l) }) ||
		slices.ContainsFunc(d.Trades, func(l api.BookTrade) bool { return l.Hour == x.Hour && has(l) })
}

// checkHour checks an hour that led from the one state to the other one.
func checkHour(t *testing.T, s api.BookStore, x, y api.BookState, f api.BookFlow, d api.BookDay) {
	h := d.Hours[x.Hour]
	charged, given := 0, 0
	for i, c := range s.Contracts {
		if y.Gas[i] < 0 || y.Gas[i] > c.Space {
			t.Fatal("a contract has less than nothing, or more than its space", s, x, d, y)
		}
		if f.Wants[i] == 0 && !takesPart(x, d, i) && y.Gas[i] != x.Gas[i] {
			t.Fatal("gas of one who does nothing does not stay", s, x, d, y)
		}
		if activeAsSaid(c, x.Hour) {
			charged += c.Fixed + c.In*max(0, f.Flows[i]) + c.Out*max(0, -f.Flows[i])
		}
		if c.Firm {
			given += c.Cut * max(f.Wants[i]-f.Grants[i], f.Grants[i]-f.Wants[i])
		}
	}
	if sum(y.Bills...) != sum(x.Bills...)+charged-given {
		t.Fatal("bills do not close", s, x, d, y)
	}
	if all := sum(x.Gas...) + x.Own + x.Fuel + h.FlowIn - h.FlowOut; sum(y.Gas...)+y.Own+y.Fuel != all {
		t.Fatal("gas is lost or made", s, x, d, y)
	}
}

// checkEnd checks the state at the end of a day.
func checkEnd(t *testing.T, s api.BookStore, d api.BookDay, x api.BookState) {
	all := 0
	for _, c := range s.Contracts {
		all += c.Gas
	}
	for _, h := range d.Hours {
		all += h.FlowIn - h.FlowOut
	}
	if sum(x.Gas...)+x.Own+x.Fuel != all {
		t.Fatal("gas is lost or made", s, d, x, all)
	}
	if x.Hour != len(d.Hours) {
		t.Fatal("hours are missing", s, d, x)
	}
}

// P6.4: a day of no hours is the beginning.
func TestRunOfNoHours(t *testing.T) {
	d := exampleDay()
	d.Hours = nil
	x, l := ran(t, promptStore(), d)
	if !same(x, begun(t, promptStore())) || len(l) > 0 {
		t.Error(x, l)
	}
}

// P6.7: if each hour allows what the store sells, no firm contract is ever cut.
func TestFirmContractsAreNotCut(t *testing.T) {
	r := rand.New(rand.NewSource(67))
	wanted, cut := 0, 0
	for range 400 {
		s := someStore(r, 2+r.Intn(api.BookContracts-1), 60)
		d := someDay(r, len(s.Contracts), 1+r.Intn(10), 60)
		for i := range d.Hours {
			d.Hours[i].In, d.Hours[i].Out = s.In+r.Intn(2), s.Out+r.Intn(2)
		}
		_, flows := ran(t, s, d)
		for _, f := range flows {
			for i, c := range s.Contracts {
				switch {
				case c.Firm && f.Grants[i] != f.Wants[i]:
					t.Fatal(s, d, f)
				case c.Firm && f.Wants[i] != 0:
					wanted++
				case f.Grants[i] != f.Wants[i]:
					cut++
				}
			}
		}
	}
	if wanted < 500 || cut < 100 {
		t.Error("the days are not mixed", wanted, cut)
	}
}

// P6.7: a nomination that comes too late changes nothing, nor does one for another hour or one that is replaced.
func TestLateNominations(t *testing.T) {
	r := rand.New(rand.NewSource(68))
	changed := 0
	for range 600 {
		s := someStore(r, 1+r.Intn(4), 60)
		d := someDay(r, len(s.Contracts), 1+r.Intn(8), 60)
		x, flows := ran(t, s, d)
		h := r.Intn(len(d.Hours))
		more := copiedDay(d)
		late := nom(r.Intn(len(s.Contracts)), h, max(0, h-s.Lead+1)+r.Intn(5), r.Intn(121)-60)
		more.Noms = slices.Insert(more.Noms, r.Intn(len(d.Noms)+1), late)
		y, others := ran(t, s, more)
		if !same(x, y) || !same(flows, others) {
			t.Fatal(s, d, late, x, y)
		}
		late.Sent = max(0, h-s.Lead)
		more = copiedDay(d)
		more.Noms = append(more.Noms, late)
		if y, _ := ran(t, s, more); late.Sent+s.Lead <= h && !same(x, y) {
			changed++
		}
	}
	if changed < 50 {
		t.Error("nominations in time change nothing", changed)
	}
}

// P6.3, P6.4: the greatest numbers.
func TestGreatestDay(t *testing.T) {
	c := with(contract(true, api.BookKilos, api.BookKilos), func(c *api.BookContract) {
		c.Fixed, c.In, c.Out, c.Cut, c.Lack = api.BookPrice, api.BookPrice, api.BookPrice, api.BookPrice, api.BookPrice
	})
	s := storeOf(slices.Repeat([]api.BookContract{c}, 8)...)
	d := api.BookDay{Hours: slices.Repeat([]api.BookHour{hour(mostFlow, mostFlow, mostFlow, mostFlow)}, api.BookHours)}
	for h := range 12 {
		for i := range 8 {
			d.Noms = append(d.Noms, nom(i, 4*h, 4*h, -api.BookKilos), nom(i, 4*h+2, 4*h+2, api.BookKilos))
		}
	}
	x, flows := ran(t, s, d)
	bill := 48*api.BookPrice + 24*api.BookPrice*api.BookKilos
	if !same(x, api.BookState{Hour: 48, Gas: slices.Repeat([]int{api.BookKilos}, 8), Bills: slices.Repeat([]int{bill}, 8)}) {
		t.Error(x)
	}
	if !slices.Equal(flows[44].Flows, slices.Repeat([]int{-api.BookKilos}, 8)) || !slices.Equal(flows[46].Grants, slices.Repeat([]int{api.BookKilos}, 8)) || sum(flows[47].Wants...) != 0 {
		t.Error(flows[44:])
	}
	worst := api.BookState{Hour: 47, Gas: make([]int, 8), Own: -1000000000000, Bills: slices.Repeat([]int{1000000000000000}, 8)}
	worst.Owed = slices.Repeat([]api.BookTrade{loan(46, 47, 0, 1, api.BookKilos)}, api.BookTrades)
	y, _ := stepped(t, s, worst, d)
	pays := api.BookTrades * api.BookKilos * api.BookPrice
	if y.Bills[0] != 1000000000000000-pays+api.BookPrice || y.Bills[1] != 1000000000000000+pays+api.BookPrice || y.Own != -1000000000000 {
		t.Error(y)
	}
}
