package leach

import (
	"cmp"
	"iter"
	"slices"

	"saltdome/api"
)

// litres are an amount of salt, millilitres one of room.
type litres int
type millilitres int

// sum adds amounts of one unit: it does not let the two be mixed.
func sum[T litres | millilitres](parts ...T) T {
	var all T
	for _, p := range parts {
		all += p
	}
	return all
}

// measure has a weight for each slice, and one for the sump.
type measure struct {
	slices [api.LeachSlices]int
	sump   int
}

// volumeOf measures the volume of the slices from one to another one.
func volumeOf(first, last int) measure {
	var m measure
	for i := first; i <= last; i++ {
		m.slices[i] = 1
	}
	return m
}

// negated returns the measure whose greatest value is the least one of m, with the other sign.
func (m measure) negated() measure {
	for i := range m.slices {
		m.slices[i] = -m.slices[i]
	}
	m.sump = -m.sump
	return m
}

// question asks for the most that a cubic metre of water can add to a measure on its path.
type question struct {
	in, out int
	measure measure
}

// inquiry is a cavern of which something is asked.
type inquiry struct {
	api.LeachCavern
	most func(question) millilitres
}

// ask begins an inquiry of a cavern. What is found is kept, because a search of plans asks the same questions over and over.
func ask(c api.LeachCavern) inquiry {
	x := inquiry{LeachCavern: c}
	known := map[question]millilitres{}
	x.most = func(q question) millilitres {
		if v, ok := known[q]; ok {
			return v
		}
		v := x.mostOfPlaces(x.places(q))
		known[q] = v
		return v
	}
	return x
}

// path goes through the slices from In to Out, both with.
func path(in, out int) iter.Seq[int] {
	step := cmp.Compare(out, in)
	return func(yield func(int) bool) {
		for i := in; yield(i) && i != out; i += step {
		}
	}
}

// rates returns between which bounds a cubic metre of water takes salt from each slice.
func (x inquiry) rates(s api.LeachStage) []api.Span {
	l := make([]api.Span, len(x.Slices))
	// What the water can still hold is the least if all slices ahead had their greatest rates.
	least, most := x.Hold, x.Hold
	for i := range path(s.In, s.Out) {
		r := x.Slices[i].Rate
		l[i] = api.Span{Low: min(r.Low, least), High: min(r.High, most)}
		least -= min(r.High, least)
		most -= min(r.Low, most)
	}
	return l
}

// place is a slice on a path: what a litre of its salt adds to a measure, and its rate.
type place struct {
	worth int
	rate  api.Span
}

// places returns the places of a path, and one behind it that takes up what the water could still hold, which is worth nothing: so the water is always full at some place.
func (x inquiry) places(q question) []place {
	var l []place
	for i := range path(q.in, q.out) {
		s := x.Slices[i]
		l = append(l, place{q.measure.slices[i]*s.Open + q.measure.sump*s.Fall, s.Rate})
	}
	return append(l, place{0, api.Span{Low: 0, High: x.Hold}})
}

// mostOfPlaces returns the most that a cubic metre of water can add, wherever it gets full.
func (x inquiry) mostOfPlaces(l []place) millilitres {
	var best millilitres
	found := false
	for k := range l {
		if v, ok := x.fullAt(l[:k], l[k]); ok && (!found || v > best) {
			best, found = v, true
		}
	}
	return best
}

// fullAt returns the most that a cubic metre of water can add if the place last takes just what the places ahead of it have left; false, if that cannot be. Each litre more from a place ahead is one less from the last, so the places that are worth most come first, and those worth no more than the last give only what the last cannot.
func (x inquiry) fullAt(ahead []place, last place) (millilitres, bool) {
	left, value := x.Hold, 0
	for _, p := range ahead {
		left -= p.rate.Low
		value += p.rate.Low * p.worth
	}
	if left < 0 {
		return 0, false
	}
	ahead = slices.Clone(ahead)
	slices.SortFunc(ahead, func(p, q place) int { return cmp.Compare(q.worth, p.worth) })
	for _, p := range ahead {
		more := left
		if p.worth <= last.worth {
			more = max(0, left-last.rate.High)
		}
		more = min(more, p.rate.High-p.rate.Low)
		left -= more
		value += more * p.worth
	}
	return millilitres(value + left*last.worth), left <= last.rate.High
}

// greatest returns the greatest value of a measure behind some stages: each stage has rates of its own, so what each adds at most can be true together.
func (x inquiry) greatest(stages []api.LeachStage, m measure) millilitres {
	var parts []millilitres
	for i, s := range x.Slices {
		w := m.slices[i]
		parts = append(parts, millilitres(max(w*s.Volume.Low, w*s.Volume.High)))
	}
	for _, s := range stages {
		parts = append(parts, millilitres(s.Water)*x.most(question{s.In, s.Out, m}))
	}
	return sum(parts...)
}

// bounds returns the bounds of a measure behind some stages.
func (x inquiry) bounds(stages []api.LeachStage, m measure) api.Span {
	return api.Span{Low: -int(x.greatest(stages, m.negated())), High: int(x.greatest(stages, m))}
}

// volume returns the bounds of the volume of a slice behind some stages.
func (x inquiry) volume(stages []api.LeachStage, slice int) api.Span {
	return x.bounds(stages, volumeOf(slice, slice))
}

// shape returns the bounds of all that stages make.
func (x inquiry) shape(stages []api.LeachStage) api.LeachShape {
	h := api.LeachShape{Sump: x.bounds(stages, measure{sump: 1})}
	for i := range x.Slices {
		var least, most []litres
		for _, s := range stages {
			r := x.rates(s)[i]
			least = append(least, litres(r.Low*s.Water))
			most = append(most, litres(r.High*s.Water))
		}
		h.Salt = append(h.Salt, api.Span{Low: int(sum(least...)), High: int(sum(most...))})
		h.Volumes = append(h.Volumes, x.volume(stages, i))
	}
	return h
}
