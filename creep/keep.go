package creep

import (
	"sort"

	"saltdome/api"
)

// kept returns for how many days, up to most, a cavern can surely be kept.
func (v survey) kept(i int, pressure, warmth api.Span, most int) int {
	c := v.Caverns[i]
	var f force
	_, gaveUp := attempt(func() { f = v.force(i, pressure, warmth) })
	if gaveUp || possible.less(pressure, c.Gate.Low) || possible.more(pressure, c.Gate.High) {
		return 0
	}
	s := firstState(c)
	for n := range most {
		s = f.on(s)
		if possible.less(s.Volume, c.Floor) || v.thinAround(i, s.Radius) {
			return n
		}
	}
	return most
}

// thinAround reports whether a wall of a cavern with some radius can be too thin while all others are as at first.
func (v survey) thinAround(i int, radius api.Span) bool {
	for j, c := range v.Caverns {
		if j != i && possible.less(v.wall(i, j, radius, c.Radius), v.Wall) {
			return true
		}
	}
	return false
}

// least returns the least pressure at which a cavern can surely be kept for some days; false, if there is none. A greater pressure never makes salt creep faster, up to that of the rock.
func (v survey) least(i int, warmth api.Span, days int) (int, bool) {
	if days == 0 {
		return 0, true
	}
	low, high := v.Caverns[i].Gate.Low, min(v.Caverns[i].Gate.High, v.Caverns[i].Rock)
	pressure := low + sort.Search(high-low+1, func(more int) bool {
		return v.kept(i, exactly(low+more), warmth, days) == days
	})
	return pressure, pressure <= high
}

// exactly returns the span of one number.
func exactly(n int) api.Span { return api.Span{Low: n, High: n} }
