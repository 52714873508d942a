package book

import "saltdome/api"

// way is a way for gas to go, and its sign in amounts.
type way int

const (
	inward  way = 1
	outward way = -1
)

// kilos returns the kilograms of an amount that goes this way; 0, if it goes the other one.
func (w way) kilos(amount int) int { return max(0, int(w)*amount) }

// add adds kilograms that go this way to amounts.
func (w way) add(amounts, kilos []int) {
	for i, n := range kilos {
		amounts[i] += int(w) * n
	}
}

// share shares an amount, but no more than all want, among items by what each of them wants, and returns what each one gets, and what is left.
func share[T any](amount int, items []T, wants func(int, T) int) ([]int, int) {
	total := 0
	for i, x := range items {
		total += wants(i, x)
	}
	given := min(amount, total)
	shares := make([]int, len(items))
	if given == 0 {
		return shares, amount
	}
	wanted, got := 0, 0
	for i, x := range items {
		wanted += wants(i, x)
		shares[i] = given*wanted/total - got
		got += shares[i]
	}
	return shares, amount - given
}

// granted returns what of some wants is granted, if at most so much can be in and out.
func (s store) granted(wants []int, in, out int) []int {
	grants := make([]int, len(wants))
	s.grant(inward, wants, in, grants)
	s.grant(outward, wants, out, grants)
	return grants
}

// grant adds what is granted one way to grants: the others share what firm contracts leave. What is enough for all gives each one what it wants.
func (s store) grant(w way, wants []int, most int, grants []int) {
	for _, firm := range [...]bool{true, false} {
		shares, left := share(most, s.Contracts, func(i int, c api.BookContract) int {
			if c.Firm != firm {
				return 0
			}
			return w.kilos(wants[i])
		})
		w.add(grants, shares)
		most = left
	}
}
