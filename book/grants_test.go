package book_test

import (
	"math"
	"math/rand"
	"slices"
	"testing"

	"saltdome/api"
	"saltdome/book"
)

// P6.2
func TestRate(t *testing.T) {
	c := exampleStore().Contracts[0]
	odd := api.BookContract{Space: 3, Rates: []api.BookRate{rate(0, 50, 1), rate(333, 40, 2), rate(334, 30, 3), rate(667, 20, 4), rate(1000, 10, 5)}}
	great := with(contract(true, api.BookKilos, 0), func(c *api.BookContract) { c.Rates = []api.BookRate{rate(0, 2, 0), rate(1000, 1, 0)} })
	for i, x := range []struct {
		c            api.BookContract
		gas, in, out int
		e            api.Errno
	}{
		{c, 0, 60, 20, api.OK}, {c, 499, 60, 20, api.OK}, {c, 500, 40, 50, api.OK}, {c, 1000, 40, 50, api.OK},
		{odd, 0, 50, 1, api.OK}, {odd, 1, 40, 2, api.OK}, {odd, 2, 30, 3, api.OK}, {odd, 3, 10, 5, api.OK},
		{great, api.BookKilos - 1, 2, 0, api.OK}, {great, api.BookKilos, 1, 0, api.OK},
		{contract(false, 1, 0), 1, api.BookKilos, api.BookKilos, api.OK},
		{c, -1, 0, 0, api.ErrArg}, {c, 1001, 0, 0, api.ErrArg}, {c, math.MaxInt, 0, 0, api.ErrArg}, {c, math.MinInt, 0, 0, api.ErrArg}, {api.BookContract{}, 0, 0, 0, api.ErrArg},
	} {
		if in, out, e := book.Rate(x.c, x.gas); in != x.in || out != x.out || e != x.e {
			t.Error(i, in, out, e)
		}
	}
	for _, b := range badContracts() {
		c := exampleStore().Contracts[0]
		b.change(&c)
		if in, out, e := book.Rate(c, 0); in != 0 || out != 0 || e != api.ErrArg {
			t.Error(b.name, in, out, e)
		}
	}
}

// P6.2: fuller contracts take in no more, and give out no less.
func TestRates(t *testing.T) {
	r := rand.New(rand.NewSource(63))
	for range 500 {
		c := someContract(r, 40)
		before := rate(0, api.BookKilos, 0)
		for gas := range c.Space + 1 {
			in, out, e := book.Rate(c, gas)
			if want := rateAsSaid(c, gas); e != api.OK || in != want.In || out != want.Out || in > before.In || out < before.Out {
				t.Fatal(c, gas, in, out, e)
			}
			before = rate(0, in, out)
		}
	}
}

// P6.2: the last one of those that were sent in time.
func TestCounts(t *testing.T) {
	s := exampleStore()
	l := []api.BookNom{nom(0, 5, 3, 10), nom(1, 5, 2, 20), nom(0, 5, 3, 30), nom(0, 5, 4, 40)}
	late := exampleStore()
	late.Lead = api.BookHours
	for i, x := range []struct {
		s              api.BookStore
		l              []api.BookNom
		contract, hour int
		want           int
		e              api.Errno
	}{
		{s, []api.BookNom{nom(0, 5, 3, 10), nom(0, 5, 2, 20), nom(0, 5, 3, 30), nom(0, 5, 4, 40)}, 0, 5, 2, api.OK},
		{s, l, 0, 5, 2, api.OK}, {s, l, 1, 5, 1, api.OK}, {promptStore(), l, 0, 5, 3, api.OK},
		{s, l, 2, 5, 0, api.ErrNone}, {s, l, 0, 4, 0, api.ErrNone}, {s, l, 0, 6, 0, api.ErrNone}, {s, nil, 0, 5, 0, api.ErrNone}, {s, l[3:], 0, 5, 0, api.ErrNone},
		{s, []api.BookNom{nom(0, 5, 3, 10), nom(0, 5, 1, 20)}, 0, 5, 0, api.OK},
		{s, []api.BookNom{nom(0, 5, 0, 0)}, 0, 5, 0, api.OK},
		{s, []api.BookNom{nom(0, 1, 0, 1)}, 0, 1, 0, api.ErrNone}, {s, []api.BookNom{nom(0, 2, 0, 1)}, 0, 2, 0, api.OK},
		{promptStore(), []api.BookNom{nom(0, 5, 6, 1), nom(0, 5, 5, 2), nom(0, 5, 47, 3)}, 0, 5, 1, api.OK},
		{promptStore(), []api.BookNom{nom(0, 0, 0, 1)}, 0, 0, 0, api.OK},
		{late, []api.BookNom{nom(0, 47, 0, 1)}, 0, 47, 0, api.ErrNone},
		{promptStore(), []api.BookNom{nom(2, 47, 47, -api.BookKilos), nom(2, 47, 47, api.BookKilos)}, 2, 47, 1, api.OK},
		{s, l, -1, 5, 0, api.ErrArg}, {s, l, 3, 5, 0, api.ErrArg}, {s, l, 0, -1, 0, api.ErrArg}, {s, l, 0, api.BookHours, 0, api.ErrArg}, {s, l, math.MaxInt, math.MinInt, 0, api.ErrArg}, {storeOf(), nil, 0, 5, 0, api.ErrArg},
		{s, make([]api.BookNom, api.BookNoms), 0, 0, 0, api.ErrNone}, {promptStore(), make([]api.BookNom, api.BookNoms), 0, 0, api.BookNoms - 1, api.OK},
		{s, make([]api.BookNom, api.BookNoms+1), 0, 0, 0, api.ErrLong}, {api.BookStore{Lead: -1}, make([]api.BookNom, api.BookNoms+1), -1, -1, 0, api.ErrLong},
	} {
		if n, e := book.Counts(x.s, x.l, x.contract, x.hour); n != x.want || e != x.e {
			t.Error(i, n, e)
		}
	}
	for i, n := range badNoms() {
		if n, e := book.Counts(s, append(slices.Clone(l), n), 0, 5); n != 0 || e != api.ErrArg {
			t.Error(i, n, e)
		}
	}
	for _, b := range badStores() {
		s := exampleStore()
		b.change(&s)
		if n, e := book.Counts(s, nil, 0, 5); n != 0 || e != api.ErrArg {
			t.Error(b.name, n, e)
		}
	}
}

// P6.2, P6.7: nominations that come too late change nothing.
func TestNominationsInTime(t *testing.T) {
	r := rand.New(rand.NewSource(64))
	found := 0
	for range 2000 {
		s := someStore(r, 1+r.Intn(3), 50)
		l := someNoms(r, r.Intn(12), len(s.Contracts), 5, 9)
		contract, hour := r.Intn(len(s.Contracts)), r.Intn(5)
		n, e := book.Counts(s, l, contract, hour)
		want := countsAsSaid(s, l, contract, hour)
		if (e == api.OK) != (want >= 0) || e == api.OK && n != want || e != api.OK && (e != api.ErrNone || n != 0) {
			t.Fatal(s, l, contract, hour, n, e, want)
		}
		late := append(slices.Clone(l), nom(contract, hour, hour-s.Lead+1+r.Intn(5), 9))
		if late[len(l)].Sent < 0 {
			continue
		}
		if again, f := book.Counts(s, late, contract, hour); again != n || f != e {
			t.Fatal(s, late, contract, hour, n, e, again, f)
		}
		if e == api.OK {
			found++
		}
	}
	if found < 300 {
		t.Error("too few nominations count", found)
	}
}

// P6.2
func TestGrant(t *testing.T) {
	s := exampleStore()
	mixed := storeOf(contract(false, 1, 0), contract(true, 1, 0), contract(false, 1, 0), contract(true, 1, 0))
	eight := storeOf(slices.Repeat([]api.BookContract{contract(true, api.BookKilos, 0)}, 8)...)
	for i, x := range []struct {
		s       api.BookStore
		wants   []int
		in, out int
		want    []int
	}{
		{s, []int{60, 90, 40}, 120, 100, []int{60, 41, 19}},
		{s, []int{60, 90, 40}, 50, 100, []int{50, 0, 0}},
		{s, []int{60, 90, 40}, 190, 0, []int{60, 90, 40}},
		{s, []int{60, 90, 40}, 189, 0, []int{60, 89, 40}},
		{s, []int{60, 90, 40}, 60, 0, []int{60, 0, 0}},
		{s, []int{60, 90, 40}, 59, 0, []int{59, 0, 0}},
		{s, []int{60, 90, 40}, 61, 0, []int{60, 0, 1}},
		{s, []int{60, 90, 40}, 0, mostFlow, []int{0, 0, 0}},
		{s, []int{-60, -90, -40}, 100, 120, []int{-60, -41, -19}},
		{s, []int{-60, -90, -40}, mostFlow, 50, []int{-50, 0, 0}},
		// each way is for itself: what is put in makes no room for what is taken out
		{s, []int{60, -90, 40}, 80, 30, []int{60, -30, 20}},
		{s, []int{-60, 90, -40}, 80, 30, []int{-30, 80, 0}},
		{s, []int{0, 0, 0}, 0, 0, []int{0, 0, 0}},
		{s, []int{0, 90, 40}, 0, 0, []int{0, 0, 0}},
		{s, []int{0, 1, 1}, 1, 0, []int{0, 0, 1}},
		{mixed, []int{10, 7, 20, 9}, 8, 0, []int{0, 3, 0, 5}},
		{mixed, []int{10, 7, 20, 9}, 16, 0, []int{0, 7, 0, 9}},
		{mixed, []int{10, 7, 20, 9}, 17, 0, []int{0, 7, 1, 9}},
		{mixed, []int{10, 7, 20, 9}, 45, 0, []int{9, 7, 20, 9}},
		{mixed, []int{-10, -7, 20, 9}, 16, 10, []int{-3, -7, 7, 9}},
		{storeOf(), nil, 5, 5, nil},
		{eight, slices.Repeat([]int{api.BookKilos}, 8), mostFlow - 1, 0, []int{99999999, 100000000, 100000000, 100000000, 100000000, 100000000, 100000000, 100000000}},
		{eight, slices.Repeat([]int{-api.BookKilos}, 8), 0, mostFlow, slices.Repeat([]int{-api.BookKilos}, 8)},
		{eight, slices.Repeat([]int{api.BookKilos, -api.BookKilos}, 4), 3, 5, []int{0, -1, 1, -1, 1, -1, 1, -2}},
	} {
		if l, e := book.Grant(x.s, x.wants, x.in, x.out); e != api.OK || !slices.Equal(l, x.want) {
			t.Error(i, l, e)
		}
	}
	for i, x := range []struct {
		wants   []int
		in, out int
	}{
		{nil, 1, 1}, {[]int{1, 1}, 1, 1}, {[]int{1, 1, 1, 1}, 1, 1}, {[]int{1, 1, 1}, -1, 1}, {[]int{1, 1, 1}, 1, -1}, {[]int{1, 1, 1}, mostFlow + 1, 1}, {[]int{1, 1, 1}, 1, mostFlow + 1},
		{[]int{1, 1, api.BookKilos + 1}, 1, 1}, {[]int{1, -api.BookKilos - 1, 1}, 1, 1}, {[]int{math.MinInt, 1, 1}, 1, 1}, {[]int{math.MaxInt, 1, 1}, math.MaxInt, math.MinInt},
	} {
		if l, e := book.Grant(s, x.wants, x.in, x.out); e != api.ErrArg || len(l) > 0 {
			t.Error(i, l, e)
		}
	}
	for _, b := range badStores() {
		s := exampleStore()
		b.change(&s)
		if l, e := book.Grant(s, make([]int, len(s.Contracts)), 1, 1); e != api.ErrArg || len(l) > 0 {
			t.Error(b.name, l, e)
		}
	}
}

// checkGrants checks the grants of one way: wants and grants that are not less than 0.
func checkGrants(t *testing.T, s api.BookStore, wants, grants []int, most int) {
	if sum(grants...) != min(sum(wants...), most) {
		t.Fatal("not all that can be is granted", s, wants, grants, most)
	}
	cut, others := false, 0
	for i, c := range s.Contracts {
		if grants[i] < 0 || grants[i] > wants[i] {
			t.Fatal("too much or too little is granted", s, wants, grants, most)
		}
		if c.Firm && grants[i] < wants[i] {
			cut = true
		}
		if !c.Firm {
			others += grants[i]
		}
	}
	if cut && others > 0 {
		t.Fatal("a firm contract is cut", s, wants, grants, most)
	}
}

// P6.2: all is granted that can be, firm contracts first.
func TestGrants(t *testing.T) {
	r := rand.New(rand.NewSource(65))
	for i := range 4000 {
		most := []int{3, 50, api.BookKilos}[i%3]
		s := someStore(r, r.Intn(api.BookContracts+1), most)
		wants := make([]int, len(s.Contracts))
		for i := range wants {
			wants[i] = r.Intn(2*most+1) - most
		}
		in, out := r.Intn(min(mostFlow, 3*most)), r.Intn(min(mostFlow, 3*most))
		grants, e := book.Grant(s, wants, in, out)
		if e != api.OK || !slices.Equal(grants, grantAsSaid(s, wants, in, out)) {
			t.Fatal(s, wants, in, out, grants, e)
		}
		checkGrants(t, s, insOf(wants), insOf(grants), in)
		checkGrants(t, s, outsOf(wants), outsOf(grants), out)
	}
}
