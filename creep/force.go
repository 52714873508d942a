package creep

import (
	"sort"

	"saltdome/api"
)

// force is what a day does to a cavern, between bounds.
type force struct {
	rate, spall, factor api.Span
}

// beyondTable is what a day gives up with on which a cavern has something beyond a table.
type beyondTable struct {
	cavern int
}

// attempt does something, and reports whether it gave up.
func attempt(do func()) (b beyondTable, gaveUp bool) {
	defer func() { b, gaveUp = recover().(beyondTable) }()
	do()
	return b, false
}

// says returns the rows of a table that tell the Lows and the Highs for numbers between bounds; false, if one is beyond the table.
func says[R any](rows []R, asked api.Span, number func(R) int) (low, high R, known bool) {
	if asked.Low < number(rows[0]) || asked.High > number(rows[len(rows)-1]) {
		return low, high, false
	}
	behind := sort.Search(len(rows), func(k int) bool { return number(rows[k]) > asked.Low })
	first := sort.Search(len(rows), func(k int) bool { return number(rows[k]) >= asked.High })
	return rows[behind-1], rows[first], true
}

func deficitOf(r api.CreepRow) int { return r.Deficit }

func warmthOf(h api.CreepHeat) int { return h.Warmth }

// force returns what a pressure and a temperature do to a cavern; it gives up if one is beyond its table.
func (v survey) force(i int, pressure, warmth api.Span) force {
	rock := v.Caverns[i].Rock
	deficit := api.Span{Low: rock - pressure.High, High: rock - pressure.Low}
	slow, fast, known := says(v.Rows, deficit, deficitOf)
	cold, hot, alsoKnown := says(v.Heats, warmth, warmthOf)
	if !known || !alsoKnown {
		panic(beyondTable{i})
	}
	return force{
		rate:   api.Span{Low: slow.Rate.Low, High: fast.Rate.High},
		spall:  api.Span{Low: slow.Spall.Low, High: fast.Spall.High},
		factor: api.Span{Low: cold.Factor.Low, High: hot.Factor.High},
	}
}

// on returns a state after a day. The greatest rate with the greatest factor takes just the whole of a volume, so no more is lost than there was.
func (f force) on(s api.CreepState) api.CreepState {
	least, most := f.rate.Low*f.factor.Low, f.rate.High*f.factor.High
	return api.CreepState{
		Radius: api.Span{
			Low:  min(s.Radius.Low+f.spall.Low, mostRadius),
			High: min(s.Radius.High+f.spall.High, mostRadius),
		},
		Volume: api.Span{
			Low:  s.Volume.Low - roundedUp(s.Volume.Low*most, rateUnit),
			High: s.Volume.High - s.Volume.High*least/rateUnit,
		},
		Lost: api.Span{
			Low:  min(s.Lost.Low+s.Volume.Low*least/rateUnit, mostLost),
			High: min(s.Lost.High+roundedUp(s.Volume.High*most, rateUnit), mostLost),
		},
	}
}
