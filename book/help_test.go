package book_test

import (
	"math"
	"math/big"
	"math/rand"
	"reflect"
	"slices"

	"saltdome/api"
)

const (
	lastHour = api.BookHours - 1
	mostFlow = 8 * api.BookKilos
)

func span(low, high int) api.Span { return api.Span{Low: low, High: high} }

func rate(fill, in, out int) api.BookRate { return api.BookRate{Fill: fill, In: in, Out: out} }

func hour(in, out, flowIn, flowOut int) api.BookHour {
	return api.BookHour{In: in, Out: out, FlowIn: flowIn, FlowOut: flowOut}
}

func nom(contract, hour, sent, amount int) api.BookNom {
	return api.BookNom{Contract: contract, Hour: hour, Sent: sent, Amount: amount}
}

func trade(hour, from, to, amount int) api.BookTrade {
	return loan(hour, -1, from, to, amount)
}

func loan(hour, back, from, to, amount int) api.BookTrade {
	return api.BookTrade{Hour: hour, Back: back, From: from, To: to, Amount: amount}
}

// exampleStore returns the store s of the chapter.
func exampleStore() api.BookStore {
	return api.BookStore{Space: 2000, In: 120, Out: 100, Lead: 2, Fuel: 10, Contracts: []api.BookContract{
		{Firm: true, Space: 1000, Hours: span(0, 47), Rates: []api.BookRate{rate(0, 60, 20), rate(500, 40, 50)}, Gas: 400, Fixed: 5, In: 2, Out: 1, Cut: 3, Lack: 9},
		{Space: 400, Hours: span(0, 9), Rates: []api.BookRate{rate(0, 100, 100)}, Gas: 100, Fixed: 1, In: 1, Out: 1, Lack: 7},
		{Space: 600, Hours: span(0, 9), Rates: []api.BookRate{rate(0, 90, 90)}, Fixed: 1, In: 1, Out: 1, Lack: 7},
	}}
}

// promptStore returns the store t of the chapter, which needs no lead.
func promptStore() api.BookStore {
	s := exampleStore()
	s.Lead = 0
	return s
}

// exampleDay returns the day d of the chapter.
func exampleDay() api.BookDay {
	return api.BookDay{Hours: []api.BookHour{hour(120, 100, 110, 0)}, Noms: []api.BookNom{nom(0, 0, 0, 80), nom(1, 0, 0, 90), nom(2, 0, 0, 40)}}
}

// contract returns a contract with so much room and gas, that puts in and takes out what it likes in all hours, and pays nothing.
func contract(firm bool, space, gas int) api.BookContract {
	return api.BookContract{Firm: firm, Space: space, Gas: gas, Hours: span(0, lastHour), Rates: []api.BookRate{rate(0, api.BookKilos, api.BookKilos)}}
}

func with(c api.BookContract, change func(*api.BookContract)) api.BookContract {
	c.Rates = slices.Clone(c.Rates)
	change(&c)
	return c
}

// storeOf returns a store with as much of all as there can be, which has these contracts.
func storeOf(l ...api.BookContract) api.BookStore {
	return api.BookStore{Space: mostFlow, In: mostFlow, Out: mostFlow, Contracts: l}
}

// open returns so many hours that allow and bring nothing.
func open(hours int) api.BookDay { return api.BookDay{Hours: make([]api.BookHour, hours)} }

func copied(s api.BookStore) api.BookStore {
	s.Contracts = copiedContracts(s.Contracts)
	return s
}

func copiedContracts(l []api.BookContract) []api.BookContract {
	l = slices.Clone(l)
	for i := range l {
		l[i].Rates = slices.Clone(l[i].Rates)
	}
	return l
}

func copiedDay(d api.BookDay) api.BookDay {
	return api.BookDay{Hours: slices.Clone(d.Hours), Noms: slices.Clone(d.Noms), Trades: slices.Clone(d.Trades)}
}

func copiedState(x api.BookState) api.BookState {
	x.Gas, x.Bills, x.Owed = slices.Clone(x.Gas), slices.Clone(x.Bills), slices.Clone(x.Owed)
	return x
}

// same reports whether values are the same; nil and empty lists are.
func same(a, b any) bool { return sameValues(reflect.ValueOf(a), reflect.ValueOf(b)) }

func sameValues(a, b reflect.Value) bool {
	switch a.Kind() {
	case reflect.Slice:
		if a.Len() != b.Len() {
			return false
		}
		for i := range a.Len() {
			if !sameValues(a.Index(i), b.Index(i)) {
				return false
			}
		}
		return true
	case reflect.Struct:
		for i := range a.NumField() {
			if !sameValues(a.Field(i), b.Field(i)) {
				return false
			}
		}
		return true
	}
	return a.Equal(b)
}

func sum(l ...int) int {
	all := 0
	for _, n := range l {
		all += n
	}
	return all
}

// What follows does what the chapter says, step by step and word by word.

func activeAsSaid(c api.BookContract, hour int) bool {
	return c.Hours.Low <= hour && hour <= c.Hours.High
}

// soldAsSaid returns what is sold in an hour, in and out.
func soldAsSaid(l []api.BookContract, hour int) (int, int) {
	in, out := 0, 0
	for _, c := range l {
		if c.Firm && activeAsSaid(c, hour) {
			in += c.Rates[0].In
			out += c.Rates[len(c.Rates)-1].Out
		}
	}
	return in, out
}

func onceAsSaid(s api.BookStore) bool {
	space := 0
	for _, c := range s.Contracts {
		space += c.Space
	}
	for h := range api.BookHours {
		if in, out := soldAsSaid(s.Contracts, h); in > s.In || out > s.Out {
			return false
		}
	}
	return space <= s.Space && len(s.Contracts) <= api.BookContracts
}

func freeAsSaid(s api.BookStore, hours api.Span) api.BookFree {
	f := api.BookFree{Space: s.Space, In: math.MaxInt, Out: math.MaxInt}
	for _, c := range s.Contracts {
		f.Space -= c.Space
	}
	for h := hours.Low; h <= hours.High; h++ {
		in, out := soldAsSaid(s.Contracts, h)
		f.In, f.Out = min(f.In, s.In-in), min(f.Out, s.Out-out)
	}
	return f
}

// saleAsSaid goes through all sales in lexicographic order, from one on that can be sold, and returns the first one that is worth most.
func saleAsSaid(s api.BookStore, offers []api.BookContract, sale []int, worth, next int) ([]int, int) {
	best, most := slices.Clone(sale), worth
	for i := next; i < len(offers); i++ {
		more := s
		more.Contracts = append(slices.Clone(s.Contracts), offers[i])
		if !onceAsSaid(more) {
			continue
		}
		o := offers[i]
		if l, w := saleAsSaid(more, offers, append(slices.Clone(sale), i), worth+o.Fixed*(1+o.Hours.High-o.Hours.Low), i+1); w > most {
			best, most = l, w
		}
	}
	return best, most
}

func rateAsSaid(c api.BookContract, gas int) api.BookRate {
	for i := len(c.Rates) - 1; i > 0; i-- {
		if 1000*gas/c.Space >= c.Rates[i].Fill {
			return c.Rates[i]
		}
	}
	return c.Rates[0]
}

// countsAsSaid returns the index of the nomination that counts; -1, if there is none.
func countsAsSaid(s api.BookStore, l []api.BookNom, contract, hour int) int {
	best := -1
	for sent := range api.BookHours {
		for i, n := range l {
			if n.Contract == contract && n.Hour == hour && n.Sent == sent && sent+s.Lead <= hour {
				best = i
			}
		}
	}
	return best
}

// shareAsSaid shares an amount among wants, of which none is less than 0, and which are more than 0 together.
func shareAsSaid(amount int, wants []int) []int {
	all := big.NewInt(int64(sum(wants...)))
	shares := make([]int, len(wants))
	for i := range wants {
		x := big.NewInt(int64(amount))
		x.Mul(x, big.NewInt(int64(sum(wants[:i+1]...)))).Div(x, all)
		shares[i] = int(x.Int64()) - sum(shares[:i]...)
	}
	return shares
}

// only returns a list that has 0 for all numbers of which something is not so.
func only(l []int, so func(int) bool) []int {
	l = slices.Clone(l)
	for i := range l {
		if !so(i) {
			l[i] = 0
		}
	}
	return l
}

func negated(l []int) []int {
	l = slices.Clone(l)
	for i := range l {
		l[i] = -l[i]
	}
	return l
}

func plus(a, b []int) []int {
	l := slices.Clone(a)
	for i := range l {
		l[i] += b[i]
	}
	return l
}

// grantWayAsSaid grants wants of which none is less than 0.
func grantWayAsSaid(s api.BookStore, wants []int, most int) []int {
	firm := only(wants, func(i int) bool { return s.Contracts[i].Firm })
	others := only(wants, func(i int) bool { return !s.Contracts[i].Firm })
	switch {
	case sum(wants...) <= most:
		return slices.Clone(wants)
	case sum(firm...) <= most:
		return plus(firm, shareAsSaid(most-sum(firm...), others))
	default:
		return shareAsSaid(most, firm)
	}
}

func insOf(l []int) []int { return only(l, func(i int) bool { return l[i] > 0 }) }

func outsOf(l []int) []int { return negated(only(l, func(i int) bool { return l[i] < 0 })) }

func grantAsSaid(s api.BookStore, wants []int, in, out int) []int {
	return plus(grantWayAsSaid(s, insOf(wants), in), negated(grantWayAsSaid(s, outsOf(wants), out)))
}

// flowAsSaid returns what flows of grants, of which none is less than 0, and the rest of what flowed.
func flowAsSaid(grants []int, flowed int) ([]int, int) {
	granted := sum(grants...)
	if granted == 0 {
		return grants, flowed
	}
	return shareAsSaid(min(granted, flowed), grants), max(0, flowed-granted)
}

func beginAsSaid(s api.BookStore) api.BookState {
	var x api.BookState
	for _, c := range s.Contracts {
		x.Gas, x.Bills = append(x.Gas, c.Gas), append(x.Bills, 0)
	}
	return x
}

// tradesAsSaid does the steps 1 and 2, and returns the trades that are refused.
func tradesAsSaid(s api.BookStore, x *api.BookState, d api.BookDay) []int {
	var later []api.BookTrade
	for _, l := range x.Owed {
		if l.Back != x.Hour {
			later = append(later, l)
			continue
		}
		has := x.Gas[l.To]
		gives := min(l.Amount, has)
		gives = min(gives, s.Contracts[l.From].Space-x.Gas[l.From])
		x.Gas[l.To] -= gives
		x.Gas[l.From] += gives
		for range min(1, max(0, l.Amount-has)) {
			x.Bills[l.To] += (l.Amount - has) * s.Contracts[l.To].Lack
			x.Bills[l.From] -= (l.Amount - has) * s.Contracts[l.To].Lack
		}
	}
	x.Owed = later
	var refused []int
	for i, t := range d.Trades {
		if t.Hour != x.Hour {
			continue
		}
		if x.Gas[t.From] < t.Amount || s.Contracts[t.To].Space-x.Gas[t.To] < t.Amount || t.Back >= 0 && len(x.Owed) == api.BookTrades {
			refused = append(refused, i)
			continue
		}
		x.Gas[t.From] -= t.Amount
		x.Gas[t.To] += t.Amount
		if t.Back >= 0 {
			x.Owed = append(x.Owed, t)
		}
	}
	return refused
}

func wantsAsSaid(s api.BookStore, x api.BookState, d api.BookDay) []int {
	wants := make([]int, len(s.Contracts))
	for i, c := range s.Contracts {
		n := countsAsSaid(s, d.Noms, i, x.Hour)
		if n < 0 || !activeAsSaid(c, x.Hour) {
			continue
		}
		if amount := d.Noms[n].Amount; amount > 0 {
			wants[i] = slices.Min([]int{amount, rateAsSaid(c, x.Gas[i]).In, c.Space - x.Gas[i]})
		} else {
			wants[i] = -slices.Min([]int{-amount, rateAsSaid(c, x.Gas[i]).Out, x.Gas[i]})
		}
	}
	return wants
}

func stepAsSaid(s api.BookStore, x api.BookState, d api.BookDay) (api.BookState, api.BookFlow) {
	x = copiedState(x)
	var f api.BookFlow
	f.Refused = tradesAsSaid(s, &x, d)
	f.Wants = wantsAsSaid(s, x, d)
	h := d.Hours[x.Hour]
	f.Grants = grantAsSaid(s, f.Wants, h.In, h.Out)
	ins, own := flowAsSaid(insOf(f.Grants), h.FlowIn)
	outs, disowned := flowAsSaid(outsOf(f.Grants), h.FlowOut)
	f.Flows = plus(ins, negated(outs))
	x.Own += own - disowned
	for i, c := range s.Contracts {
		fuel := ins[i] * s.Fuel / 1000
		x.Fuel += fuel
		x.Gas[i] += ins[i] - fuel - outs[i]
		if activeAsSaid(c, x.Hour) {
			x.Bills[i] += c.Fixed + ins[i]*c.In + outs[i]*c.Out
			if c.Firm {
				x.Bills[i] -= c.Cut * (sum(insOf(f.Wants)[i], outsOf(f.Wants)[i]) - sum(insOf(f.Grants)[i], outsOf(f.Grants)[i]))
			}
		}
	}
	x.Hour++
	return x, f
}

// What follows makes stores and days by chance.

func someSpan(r *rand.Rand) api.Span {
	if r.Intn(2) == 0 {
		return span(0, lastHour)
	}
	low := r.Intn(10)
	return span(low, low+r.Intn(api.BookHours-low))
}

// someContract returns a contract of which no number of kilograms is greater than a number.
func someContract(r *rand.Rand, most int) api.BookContract {
	c := api.BookContract{Firm: r.Intn(2) == 0, Space: 1 + r.Intn(most), Hours: someSpan(r)}
	c.Gas = r.Intn(c.Space + 1)
	for _, price := range []*int{&c.Fixed, &c.In, &c.Out, &c.Cut, &c.Lack} {
		*price = r.Intn(1 + []int{0, 9, api.BookPrice}[r.Intn(3)])
	}
	next := rate(0, r.Intn(most+1), r.Intn(most/2+1))
	for len(c.Rates) < api.BookRates && next.Fill <= 1000 {
		c.Rates = append(c.Rates, next)
		next.Fill += 1 + r.Intn(600)
		next.In -= r.Intn(next.In + 1)
		next.Out += r.Intn(most - next.Out + 1)
	}
	return c
}

// someStore returns a store that is all but sold out, with so many contracts.
func someStore(r *rand.Rand, contracts, most int) api.BookStore {
	s := storeOf()
	s.Lead, s.Fuel = r.Intn(3), []int{0, 10, 333, 1000}[r.Intn(4)]
	for range contracts {
		s.Contracts = append(s.Contracts, someContract(r, most))
	}
	f := freeAsSaid(s, span(0, lastHour))
	s.Space -= f.Space - min(f.Space, r.Intn(2)*r.Intn(most))
	s.In -= f.In - min(f.In, r.Intn(2)*r.Intn(most))
	s.Out -= f.Out - min(f.Out, r.Intn(2)*r.Intn(most))
	return s
}

func someHour(r *rand.Rand, most int) api.BookHour {
	return hour(r.Intn(4*most), r.Intn(4*most), r.Intn(2)*r.Intn(4*most), r.Intn(2)*r.Intn(4*most))
}

// someNoms returns nominations for the first hours.
func someNoms(r *rand.Rand, count, contracts, hours, most int) []api.BookNom {
	var l []api.BookNom
	for range count {
		h := r.Intn(hours)
		l = append(l, nom(r.Intn(contracts), h, r.Intn(h+2)%api.BookHours, r.Intn(2*most+1)-most))
	}
	return l
}

// someTrades returns trades and loans of at least two contracts in the first hours.
func someTrades(r *rand.Rand, count, contracts, hours, most int) []api.BookTrade {
	var l []api.BookTrade
	for range count {
		from := r.Intn(contracts)
		t := trade(r.Intn(hours), from, (from+1+r.Intn(contracts-1))%contracts, 1+r.Intn(most))
		if r.Intn(2) == 0 && t.Hour < lastHour {
			t.Back = min(t.Hour+1+r.Intn(3), lastHour)
		}
		l = append(l, t)
	}
	return l
}

// someDay returns a day for a store with contracts.
func someDay(r *rand.Rand, contracts, hours, most int) api.BookDay {
	var d api.BookDay
	for range hours {
		d.Hours = append(d.Hours, someHour(r, most))
	}
	d.Noms = someNoms(r, min(api.BookNoms, 3*hours), contracts, hours, most)
	if contracts > 1 {
		d.Trades = someTrades(r, r.Intn(min(hours, api.BookTrades)+1), contracts, hours, most/2+1)
	}
	return d
}

// bad is a change that makes a value one that is not as defined.
type bad[T any] struct {
	name   string
	change func(*T)
}

func badContracts() []bad[api.BookContract] {
	return []bad[api.BookContract]{
		{"no space", func(c *api.BookContract) { c.Space, c.Gas = 0, 0 }},
		{"space less than none", func(c *api.BookContract) { c.Space, c.Gas = -1, -1 }},
		{"space", func(c *api.BookContract) { c.Space = api.BookKilos + 1 }},
		{"greatest space", func(c *api.BookContract) { c.Space = math.MaxInt }},
		{"low hour", func(c *api.BookContract) { c.Hours.Low = -1 }},
		{"high hour", func(c *api.BookContract) { c.Hours.High = api.BookHours }},
		{"hours", func(c *api.BookContract) { c.Hours = span(5, 4) }},
		{"no rates", func(c *api.BookContract) { c.Rates = nil }},
		{"rates", func(c *api.BookContract) {
			c.Rates = nil
			for i := range api.BookRates + 1 {
				c.Rates = append(c.Rates, rate(i, 0, 0))
			}
		}},
		{"first fill", func(c *api.BookContract) { c.Rates[0].Fill = 1 }},
		{"first fill below", func(c *api.BookContract) { c.Rates[0].Fill = -1 }},
		{"fill", func(c *api.BookContract) { c.Rates[1].Fill = 1001 }},
		{"same fill", func(c *api.BookContract) { c.Rates[1].Fill = 0 }},
		{"less fill", func(c *api.BookContract) { c.Rates = append(c.Rates, rate(499, 40, 50)) }},
		{"rate in", func(c *api.BookContract) { c.Rates[0].In = api.BookKilos + 1 }},
		{"rate in below", func(c *api.BookContract) { c.Rates[1].In = -1 }},
		{"rate out", func(c *api.BookContract) { c.Rates[1].Out = api.BookKilos + 1 }},
		{"rate out below", func(c *api.BookContract) { c.Rates[0].Out = -1 }},
		{"rate in grows", func(c *api.BookContract) { c.Rates[1].In = 61 }},
		{"rate out falls", func(c *api.BookContract) { c.Rates[1].Out = 19 }},
		{"gas", func(c *api.BookContract) { c.Gas = c.Space + 1 }},
		{"gas below", func(c *api.BookContract) { c.Gas = -1 }},
		{"fixed", func(c *api.BookContract) { c.Fixed = api.BookPrice + 1 }},
		{"fixed below", func(c *api.BookContract) { c.Fixed = -1 }},
		{"price in", func(c *api.BookContract) { c.In = api.BookPrice + 1 }},
		{"price in below", func(c *api.BookContract) { c.In = -1 }},
		{"price out", func(c *api.BookContract) { c.Out = api.BookPrice + 1 }},
		{"price out below", func(c *api.BookContract) { c.Out = -1 }},
		{"cut", func(c *api.BookContract) { c.Cut = api.BookPrice + 1 }},
		{"cut below", func(c *api.BookContract) { c.Cut = -1 }},
		{"lack", func(c *api.BookContract) { c.Lack = api.BookPrice + 1 }},
		{"lack below", func(c *api.BookContract) { c.Lack = -1 }},
	}
}

func badStores() []bad[api.BookStore] {
	l := []bad[api.BookStore]{
		{"space", func(s *api.BookStore) { s.Space = mostFlow + 1 }},
		{"space below", func(s *api.BookStore) { *s = api.BookStore{Space: -1} }},
		{"in", func(s *api.BookStore) { s.In = mostFlow + 1 }},
		{"in below", func(s *api.BookStore) { *s = api.BookStore{In: -1} }},
		{"out", func(s *api.BookStore) { s.Out = mostFlow + 1 }},
		{"out below", func(s *api.BookStore) { *s = api.BookStore{Out: -1} }},
		{"lead", func(s *api.BookStore) { s.Lead = api.BookHours + 1 }},
		{"lead below", func(s *api.BookStore) { s.Lead = -1 }},
		{"fuel", func(s *api.BookStore) { s.Fuel = 1001 }},
		{"fuel below", func(s *api.BookStore) { s.Fuel = -1 }},
		{"contracts", func(s *api.BookStore) {
			*s = storeOf(slices.Repeat([]api.BookContract{contract(false, 1, 0)}, api.BookContracts+1)...)
		}},
		{"space sold twice", func(s *api.BookStore) { s.Space = 1999 }},
		{"in sold twice", func(s *api.BookStore) { s.In = 59 }},
		{"out sold twice", func(s *api.BookStore) { s.Out = 49 }},
	}
	for _, b := range badContracts() {
		l = append(l, bad[api.BookStore]{"contract: " + b.name, func(s *api.BookStore) { b.change(&s.Contracts[0]) }})
	}
	return append(l, bad[api.BookStore]{"last contract", func(s *api.BookStore) { s.Contracts[2].Lack = -1 }})
}

// badNoms returns nominations that are not as defined for the example's store.
func badNoms() []api.BookNom {
	return []api.BookNom{
		nom(-1, 5, 3, 10), nom(3, 5, 3, 10), nom(math.MaxInt, 5, 3, 10), nom(0, -1, 0, 10), nom(0, api.BookHours, 3, 10), nom(0, 5, -1, 10), nom(0, 5, api.BookHours, 10),
		nom(0, 5, 3, api.BookKilos+1), nom(0, 5, 3, -api.BookKilos-1), nom(0, 5, 3, math.MinInt), nom(0, 5, 3, math.MaxInt),
	}
}

// badTrades returns trades that are not as defined for the example's store.
func badTrades() []api.BookTrade {
	return []api.BookTrade{
		trade(-1, 0, 1, 10), trade(api.BookHours, 0, 1, 10), loan(5, 5, 0, 1, 10), loan(5, 4, 0, 1, 10), loan(5, 0, 0, 1, 10), loan(5, -2, 0, 1, 10), loan(5, api.BookHours, 0, 1, 10), loan(lastHour, lastHour, 0, 1, 10), loan(lastHour, api.BookHours, 0, 1, 10),
		trade(5, -1, 1, 10), trade(5, 3, 1, 10), trade(5, 0, -1, 10), trade(5, 0, 3, 10), trade(5, 1, 1, 10), trade(5, 0, 1, 0), trade(5, 0, 1, -1), trade(5, 0, 1, api.BookKilos+1), trade(5, 0, 1, math.MaxInt), trade(math.MaxInt, 0, 1, 10), loan(5, math.MinInt, 0, 1, 10), loan(5, math.MaxInt, 0, 1, 10),
	}
}

// badDays returns changes of the example's day.
func badDays() []bad[api.BookDay] {
	l := []bad[api.BookDay]{
		{"hours", func(d *api.BookDay) { d.Hours = make([]api.BookHour, api.BookHours+1) }},
		{"noms", func(d *api.BookDay) { d.Noms = make([]api.BookNom, api.BookNoms+1) }},
		{"trades", func(d *api.BookDay) {
			d.Trades = slices.Repeat([]api.BookTrade{trade(0, 0, 1, 1)}, api.BookTrades+1)
		}},
		{"in", func(d *api.BookDay) { d.Hours[0].In = mostFlow + 1 }},
		{"in below", func(d *api.BookDay) { d.Hours[0].In = -1 }},
		{"out", func(d *api.BookDay) { d.Hours[0].Out = mostFlow + 1 }},
		{"out below", func(d *api.BookDay) { d.Hours[0].Out = -1 }},
		{"flow in", func(d *api.BookDay) { d.Hours[0].FlowIn = mostFlow + 1 }},
		{"flow in below", func(d *api.BookDay) { d.Hours[0].FlowIn = -1 }},
		{"flow out", func(d *api.BookDay) { d.Hours[0].FlowOut = mostFlow + 1 }},
		{"flow out below", func(d *api.BookDay) { d.Hours = append(d.Hours, hour(0, 0, 0, -1)) }},
	}
	for _, n := range badNoms() {
		if n.Contract == 3 {
			n.Contract = api.BookContracts
		}
		l = append(l, bad[api.BookDay]{"nom", func(d *api.BookDay) { d.Noms = append(d.Noms, n) }})
	}
	for _, t := range badTrades() {
		if t.From == 3 || t.To == 3 {
			t.From = api.BookContracts
		}
		l = append(l, bad[api.BookDay]{"trade", func(d *api.BookDay) { d.Trades = append(d.Trades, trade(0, 0, 1, 1), t) }})
	}
	return l
}
