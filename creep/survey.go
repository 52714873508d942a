package creep

import (
	"iter"
	"sort"

	"saltdome/api"
)

// The greatest numbers of states.
const (
	mostRadius = 2 * api.CreepRadius
	mostLost   = 100 * api.CreepVolume
)

// The units of rates times factors, of shares, and of places.
const (
	rateUnit  = 1000000 * 1000
	shareUnit = 1000000
	metre     = 1000
)

// survey is a site that is looked at; it and all that is asked of it are as defined.
type survey struct {
	api.CreepSite
}

// begin returns the states of all caverns at first.
func (v survey) begin() []api.CreepState {
	var l []api.CreepState
	for _, c := range v.Caverns {
		l = append(l, firstState(c))
	}
	return l
}

// firstState returns the state of a cavern at first.
func firstState(c api.CreepCavern) api.CreepState {
	return api.CreepState{Radius: c.Radius, Volume: c.Volume}
}

// after returns the states after a day; or, with false, the first cavern that has something beyond a table.
func (v survey) after(l []api.CreepState, d api.CreepDay) ([]api.CreepState, int, bool) {
	next := make([]api.CreepState, len(l))
	b, gaveUp := attempt(func() {
		for i, s := range l {
			next[i] = v.force(i, d.Pressures[i], d.Warmths[i]).on(s)
		}
	})
	if gaveUp {
		return nil, b.cavern, false
	}
	return next, 0, true
}

// pairs goes through all pairs of n caverns, each with its lesser number first.
func pairs(n int) iter.Seq2[int, int] {
	return func(yield func(int, int) bool) {
		for i := range n {
			for j := i + 1; j < n; j++ {
				if !yield(i, j) {
					return
				}
			}
		}
	}
}

// apart returns the distance of two caverns.
func (v survey) apart(i, j int) int {
	x := metre * (v.Caverns[i].X - v.Caverns[j].X)
	y := metre * (v.Caverns[i].Y - v.Caverns[j].Y)
	return sort.Search(4*metre*api.CreepPlace, func(n int) bool { return (n+1)*(n+1) > x*x+y*y })
}

// wall returns the bounds of the thickness of the wall between two caverns with some radii.
func (v survey) wall(i, j int, a, b api.Span) api.Span {
	apart := v.apart(i, j)
	return api.Span{Low: apart - a.High - b.High, High: apart - a.Low - b.Low}
}

// share returns what a cavern makes at a place; nothing behind the last ring.
func (v survey) share(i, x, y int) api.Span {
	x -= v.Caverns[i].X
	y -= v.Caverns[i].Y
	for _, r := range v.Rings {
		if r.Away*r.Away >= x*x+y*y {
			return r.Share
		}
	}
	return api.Span{}
}

// sunk returns the bounds of the subsidence at a place.
func (v survey) sunk(l []api.CreepState, x, y int) api.Span {
	var all api.Span
	for i, s := range l {
		share := v.share(i, x, y)
		all.Low += s.Lost.Low * share.Low / shareUnit
		all.High += roundedUp(s.Lost.High*share.High, shareUnit)
	}
	return all
}

// roundedUp returns a quotient that is not rounded down, but up.
func roundedUp(n, by int) int { return (n + by - 1) / by }
