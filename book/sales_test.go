package book_test

import (
	"math"
	"math/rand"
	"slices"
	"testing"

	"saltdome/api"
	"saltdome/book"
)

// P6.1: what is as defined, at its bounds.
func TestCheck(t *testing.T) {
	least := api.BookContract{Space: 1, Rates: []api.BookRate{{}}}
	greatest := with(contract(true, api.BookKilos, api.BookKilos), func(c *api.BookContract) {
		c.Fixed, c.In, c.Out, c.Cut, c.Lack = api.BookPrice, api.BookPrice, api.BookPrice, api.BookPrice, api.BookPrice
		for _, fill := range []int{1, 2, 500, 999, 1000} {
			c.Rates = append(c.Rates, rate(fill, api.BookKilos, api.BookKilos))
		}
	})
	full := storeOf(slices.Repeat([]api.BookContract{greatest}, api.BookContracts)...)
	full.Lead, full.Fuel = api.BookHours, 1000
	for i, s := range []api.BookStore{
		{}, exampleStore(), promptStore(), full, {Space: 1, Contracts: []api.BookContract{least}}, {Lead: api.BookHours, Fuel: 1000},
		{Space: 1, Contracts: []api.BookContract{with(least, func(c *api.BookContract) { c.Hours = span(lastHour, lastHour) })}},
	} {
		if e := book.Check(s); e != api.OK {
			t.Error(i, e)
		}
	}
	for _, b := range badStores() {
		s := exampleStore()
		b.change(&s)
		if e := book.Check(s); e != api.ErrArg {
			t.Error(b.name, e)
		}
	}
}

// P6.1, P0.6: room is sold for all hours, by all contracts; rates hour by hour, by firm ones.
func TestNothingIsSoldTwice(t *testing.T) {
	rates := func(c *api.BookContract) { c.Rates = []api.BookRate{rate(0, 60, 20), rate(500, 40, 50)} }
	firm, loose := with(contract(true, 10, 0), rates), with(contract(false, 10, 0), rates)
	at := func(c api.BookContract, low, high int) api.BookContract {
		return with(c, func(c *api.BookContract) { c.Hours = span(low, high) })
	}
	for i, x := range []struct {
		space, in, out int
		l              []api.BookContract
		e              api.Errno
	}{
		{20, 120, 100, []api.BookContract{firm, firm}, api.OK},
		{19, 120, 100, []api.BookContract{firm, firm}, api.ErrArg},
		{20, 119, 100, []api.BookContract{firm, firm}, api.ErrArg},
		{20, 120, 99, []api.BookContract{firm, firm}, api.ErrArg},
		{20, 60, 50, []api.BookContract{firm, loose}, api.OK},
		{20, 0, 0, []api.BookContract{loose, loose}, api.OK},
		{19, 0, 0, []api.BookContract{loose, loose}, api.ErrArg},
		{20, 60, 50, []api.BookContract{at(firm, 0, 9), at(firm, 10, 47)}, api.OK},
		{19, 60, 50, []api.BookContract{at(firm, 0, 9), at(firm, 10, 47)}, api.ErrArg},
		{20, 119, 100, []api.BookContract{at(firm, 0, 10), at(firm, 10, 47)}, api.ErrArg},
		{20, 120, 99, []api.BookContract{at(firm, 0, 10), at(firm, 10, 47)}, api.ErrArg},
		{20, 119, 100, []api.BookContract{at(firm, 0, 0), at(firm, 0, 0)}, api.ErrArg},
		{20, 120, 99, []api.BookContract{at(firm, 47, 47), at(firm, 47, 47)}, api.ErrArg},
		{30, 120, 100, []api.BookContract{at(firm, 0, 20), at(firm, 10, 30), at(firm, 21, 47)}, api.OK},
		{30, 120, 100, []api.BookContract{at(firm, 0, 20), at(firm, 10, 30), at(firm, 20, 47)}, api.ErrArg},
	} {
		if e := book.Check(api.BookStore{Space: x.space, In: x.in, Out: x.out, Contracts: x.l}); e != x.e {
			t.Error(i, e)
		}
	}
}

// P6.1
func TestFree(t *testing.T) {
	s := exampleStore()
	s.Contracts[1].Firm, s.Contracts[1].Rates = true, []api.BookRate{rate(0, 60, 50)}
	for i, x := range []struct {
		s     api.BookStore
		hours api.Span
		want  api.BookFree
		e     api.Errno
	}{
		{exampleStore(), span(0, 9), api.BookFree{In: 60, Out: 50}, api.OK},
		{exampleStore(), span(0, 47), api.BookFree{In: 60, Out: 50}, api.OK},
		{s, span(0, 0), api.BookFree{}, api.OK},
		{s, span(9, 9), api.BookFree{}, api.OK},
		{s, span(9, 10), api.BookFree{}, api.OK},
		{s, span(10, 10), api.BookFree{In: 60, Out: 50}, api.OK},
		{s, span(10, 47), api.BookFree{In: 60, Out: 50}, api.OK},
		{storeOf(), span(47, 47), api.BookFree{Space: mostFlow, In: mostFlow, Out: mostFlow}, api.OK},
		{storeOf(contract(false, 7, 3)), span(0, 47), api.BookFree{Space: mostFlow - 7, In: mostFlow, Out: mostFlow}, api.OK},
		{exampleStore(), span(-1, 9), api.BookFree{}, api.ErrArg},
		{exampleStore(), span(0, 48), api.BookFree{}, api.ErrArg},
		{exampleStore(), span(9, 8), api.BookFree{}, api.ErrArg},
		{exampleStore(), span(math.MinInt, math.MaxInt), api.BookFree{}, api.ErrArg},
		{exampleStore(), span(math.MaxInt, math.MaxInt), api.BookFree{}, api.ErrArg},
	} {
		if f, e := book.Free(x.s, x.hours); f != x.want || e != x.e {
			t.Error(i, f, e)
		}
	}
	for _, b := range badStores() {
		s := exampleStore()
		b.change(&s)
		if f, e := book.Free(s, span(0, 9)); e != api.ErrArg || f != (api.BookFree{}) {
			t.Error(b.name, f, e)
		}
	}
}

// P6.1, P0.6: what can still be sold can be, and no more.
func TestWhatIsFreeCanBeSold(t *testing.T) {
	r := rand.New(rand.NewSource(61))
	more := 0
	for range 600 {
		s := someStore(r, r.Intn(api.BookContracts), 50)
		hours := someSpan(r)
		f, e := book.Free(s, hours)
		if e != api.OK || f != freeAsSaid(s, hours) {
			t.Fatal(s, hours, f, e)
		}
		if f.Space == 0 {
			continue
		}
		fits := api.BookContract{Firm: true, Space: f.Space, Hours: hours, Rates: []api.BookRate{rate(0, f.In, 0), rate(1, 0, f.Out)}}
		for i, change := range []func(*api.BookContract){
			func(*api.BookContract) {}, func(c *api.BookContract) { c.Space++ }, func(c *api.BookContract) { c.Rates[0].In++ }, func(c *api.BookContract) { c.Rates[1].Out++ },
			func(c *api.BookContract) {
				c.Firm, c.Rates[0].In, c.Rates[1].Out = false, c.Rates[0].In+1, c.Rates[1].Out+1
			},
		} {
			sold := copied(s)
			sold.Contracts = append(sold.Contracts, with(fits, change))
			if e := book.Check(sold); (e == api.OK) != (i == 0 || i == 4) {
				t.Fatal(i, s, hours, f, e)
			}
		}
		more++
	}
	if more < 100 {
		t.Error("too few stores with room", more)
	}
}

// offer returns an offer of some room that is worth its price in one hour.
func offer(space, price int) api.BookContract {
	return with(contract(false, space, 0), func(c *api.BookContract) { c.Hours, c.Fixed = span(3, 3), price })
}

// P6.1: the best sale, and the first one of several.
func TestSell(t *testing.T) {
	room := storeOf()
	room.Space = 10
	firm := func(in, out, low, high, price int) api.BookContract {
		return api.BookContract{Firm: true, Space: 1, Hours: span(low, high), Fixed: price, Rates: []api.BookRate{rate(0, in, 0), rate(9, 0, out)}}
	}
	rated := api.BookStore{Space: 100, In: 10, Out: 10}
	seven := storeOf(slices.Repeat([]api.BookContract{contract(false, 1, 0)}, 7)...)
	full := storeOf(slices.Repeat([]api.BookContract{contract(false, 1, 0)}, 8)...)
	for i, x := range []struct {
		s      api.BookStore
		offers []api.BookContract
		want   []int
		worth  int
	}{
		{room, nil, nil, 0},
		{room, []api.BookContract{offer(10, 5)}, []int{0}, 5},
		{room, []api.BookContract{offer(11, 5)}, nil, 0},
		{room, []api.BookContract{offer(5, 5), offer(5, 6), offer(10, 10)}, []int{0, 1}, 11},
		{room, []api.BookContract{offer(5, 5), offer(5, 6), offer(10, 12)}, []int{2}, 12},
		{room, []api.BookContract{offer(10, 11), offer(5, 5), offer(5, 6)}, []int{0}, 11},
		{room, []api.BookContract{offer(5, 5), offer(10, 11), offer(5, 6)}, []int{0, 2}, 11},
		{room, []api.BookContract{offer(6, 4), offer(6, 4), offer(6, 4)}, []int{0}, 4},
		// what is worth nothing is left out at the end of a list, and sold ahead of what is worth something
		{room, []api.BookContract{offer(1, 0), offer(1, 0)}, nil, 0},
		{room, []api.BookContract{offer(1, 5), offer(1, 0)}, []int{0}, 5},
		{room, []api.BookContract{offer(1, 0), offer(1, 5)}, []int{0, 1}, 5},
		{room, []api.BookContract{offer(9, 0), offer(5, 5), offer(1, 0), offer(4, 1)}, []int{1, 2, 3}, 6},
		{room, []api.BookContract{with(offer(1, 5), func(c *api.BookContract) { c.Hours = span(10, 12) })}, []int{0}, 15},
		{room, []api.BookContract{offer(10, 15), with(offer(10, 4), func(c *api.BookContract) { c.Hours = span(0, 3) })}, []int{1}, 16},
		// rates, hour by hour
		{rated, []api.BookContract{firm(6, 1, 0, 9, 1), firm(5, 1, 9, 20, 1), firm(5, 1, 21, 22, 9)}, []int{1, 2}, 12 + 18},
		{rated, []api.BookContract{firm(1, 6, 0, 9, 1), firm(1, 5, 10, 20, 1)}, []int{0, 1}, 10 + 11},
		{rated, []api.BookContract{firm(1, 6, 0, 10, 2), firm(1, 5, 10, 20, 2)}, []int{0}, 22},
		{rated, []api.BookContract{firm(11, 0, 5, 5, 1), firm(0, 11, 5, 5, 1), firm(10, 10, 5, 5, 1)}, []int{2}, 1},
		// no more contracts than there can be
		{seven, []api.BookContract{offer(1, 5), offer(1, 6), offer(1, 6)}, []int{1}, 6},
		{full, []api.BookContract{offer(1, 5)}, nil, 0},
		{storeOf(), slices.Repeat([]api.BookContract{offer(1, 2)}, 8), []int{0, 1, 2, 3, 4, 5, 6, 7}, 16},
		{storeOf(contract(false, 1, 0)), slices.Repeat([]api.BookContract{offer(1, 2)}, 8), []int{0, 1, 2, 3, 4, 5, 6}, 14},
		{storeOf(), slices.Repeat([]api.BookContract{with(contract(true, api.BookKilos, 0), func(c *api.BookContract) { c.Fixed = api.BookPrice })}, 8), []int{0, 1, 2, 3, 4, 5, 6, 7}, 8 * 48 * api.BookPrice},
	} {
		if sale, worth, e := book.Sell(x.s, x.offers); !slices.Equal(sale, x.want) || worth != x.worth || e != api.OK {
			t.Error(i, sale, worth, e)
		}
	}
}

// P6.1, R1
func TestSellOfNoOffers(t *testing.T) {
	nine := slices.Repeat([]api.BookContract{offer(1, 1)}, api.BookOffers+1)
	broken := exampleStore()
	broken.Lead = -1
	for i, x := range []struct {
		s      api.BookStore
		offers []api.BookContract
		e      api.Errno
	}{
		{exampleStore(), nine, api.ErrLong}, {broken, nine, api.ErrLong}, {broken, nil, api.ErrArg},
		{exampleStore(), make([]api.BookContract, api.BookOffers+1), api.ErrLong}, {exampleStore(), make([]api.BookContract, 1), api.ErrArg},
	} {
		if sale, worth, e := book.Sell(x.s, x.offers); len(sale) > 0 || worth != 0 || e != x.e {
			t.Error(i, sale, worth, e)
		}
	}
	for _, b := range badContracts() {
		offers := []api.BookContract{offer(1, 1), exampleStore().Contracts[0]}
		b.change(&offers[1])
		if sale, worth, e := book.Sell(storeOf(), offers); len(sale) > 0 || worth != 0 || e != api.ErrArg {
			t.Error(b.name, sale, worth, e)
		}
	}
	for _, b := range badStores() {
		s := exampleStore()
		b.change(&s)
		if sale, worth, e := book.Sell(s, nil); len(sale) > 0 || worth != 0 || e != api.ErrArg {
			t.Error(b.name, sale, worth, e)
		}
	}
}

// P6.1, P0.6: no other offers that can be sold are worth more, and what is sold makes a store in which nothing is sold twice.
func TestBestSales(t *testing.T) {
	r := rand.New(rand.NewSource(62))
	some, several := 0, 0
	for range 1500 {
		s := someStore(r, r.Intn(4), 20)
		s.Space, s.In, s.Out = s.Space+r.Intn(60), s.In+r.Intn(60), s.Out+r.Intn(60)
		var offers []api.BookContract
		for range r.Intn(api.BookOffers + 1) {
			o := someContract(r, 20)
			o.Fixed = r.Intn(3)
			if r.Intn(2) == 0 {
				o.Hours = span(r.Intn(3), 2+r.Intn(3))
			}
			offers = append(offers, o)
		}
		sale, worth, e := book.Sell(s, offers)
		want, most := saleAsSaid(s, offers, nil, 0, 0)
		if e != api.OK || !slices.Equal(sale, want) || worth != most {
			t.Fatal(s, offers, sale, worth, e, want, most)
		}
		sold := copied(s)
		for _, i := range sale {
			sold.Contracts = append(sold.Contracts, offers[i])
		}
		if e := book.Check(sold); e != api.OK {
			t.Fatal(s, offers, sale, e)
		}
		if len(sale) > 0 {
			some++
		}
		if len(sale) > 1 && len(sale) < len(offers) {
			several++
		}
	}
	if some < 500 || several < 300 {
		t.Error("too few sales", some, several)
	}
}
