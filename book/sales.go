package book

import (
	"iter"
	"slices"

	"saltdome/api"
)

// store is a store that is run.
type store struct {
	api.BookStore
}

// active goes through the contracts that are active in an hour, with their indexes.
func (s store) active(hour int) iter.Seq2[int, api.BookContract] {
	return func(yield func(int, api.BookContract) bool) {
		for i, c := range s.Contracts {
			if c.Hours.Low <= hour && hour <= c.Hours.High && !yield(i, c) {
				return
			}
		}
	}
}

// left returns what is neither sold in an hour nor room of a contract; numbers are less than 0 where too much is sold.
func (s store) left(hour int) api.BookFree {
	f := api.BookFree{Space: s.Space, In: s.In, Out: s.Out}
	for _, c := range s.Contracts {
		f.Space -= c.Space
	}
	for _, c := range s.active(hour) {
		if c.Firm {
			f.In -= c.Rates[0].In
			f.Out -= c.Rates[len(c.Rates)-1].Out
		}
	}
	return f
}

// free returns what is left in each of some hours.
func (s store) free(hours api.Span) api.BookFree {
	f := s.left(hours.Low)
	for hour := hours.Low + 1; hour <= hours.High; hour++ {
		l := s.left(hour)
		f.In, f.Out = min(f.In, l.In), min(f.Out, l.Out)
	}
	return f
}

// sellsTwice reports whether more is sold in some hour than there is.
func (s store) sellsTwice() bool {
	f := s.free(api.Span{Low: 0, High: api.BookHours - 1})
	return min(f.Space, f.In, f.Out) < 0
}

// worth returns what an offer is worth.
func worth(c api.BookContract) int { return c.Fixed * (c.Hours.High - c.Hours.Low + 1) }

// bestSale returns the best sale of offers, and what it is worth.
func (s store) bestSale(offers []api.BookContract) ([]int, int) {
	var best []int
	most := 0
sales:
	for bits := range 1 << len(offers) {
		with := s
		with.Contracts = slices.Clone(s.Contracts)
		var sale []int
		all := 0
		for i, offer := range offers {
			if bits>>i&1 == 0 {
				continue
			}
			with.Contracts = append(with.Contracts, offer)
			if len(with.Contracts) > api.BookContracts || with.sellsTwice() {
				continue sales
			}
			sale = append(sale, i)
			all += worth(offer)
		}
		if all > most || all == most && slices.Compare(sale, best) < 0 {
			best, most = sale, all
		}
	}
	return best, most
}
