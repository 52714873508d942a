package creep

import (
	"math"
	"math/bits"
	"slices"

	"saltdome/api"
	"saltdome/valid"
)

// A search of plans must not go through all of them to find that none holds. So it asks of each stand whether there is hope: whether each cavern could be emptied on some number of the days that are left, so that all days get what they need and nothing is broken at their end, if each cavern had those of the days that are best for it alone. What is broken never becomes whole again, so the end is all that is looked at.

// choices is a set of numbers of days, with a bit for each.
type choices uint64

// only returns the set of one number.
func only(n int) choices { return 1 << n }

func (s choices) has(n int) bool { return s&only(n) != 0 }

// least and most return the least and the greatest number of a set that has some.
func (s choices) least() int { return bits.TrailingZeros64(uint64(s)) }
func (s choices) most() int  { return bits.Len64(uint64(s)) - 1 }

// standing is a cavern with a state and how many days are left.
type standing struct {
	cavern, left int
	state        api.CreepState
}

// prospect is what becomes of a cavern at best, by the number of days on which it is emptied, and which of these numbers are open.
type prospect struct {
	open choices
	ends []api.CreepState
}

// prospect returns what becomes of a cavern at best.
func (p *planner) prospect(s standing) *prospect {
	if x := p.known[s]; x != nil {
		return x
	}
	x := prospect{only(0), []api.CreepState{s.state}}
	for _, need := range p.needs[len(p.needs)-s.left:] {
		x = p.dayMore(s.cavern, need, x)
	}
	for n, end := range x.ends {
		if possible.less(end.Volume, p.Caverns[s.cavern].Floor) {
			x.open &^= only(n)
		}
	}
	p.known[s] = &x
	return &x
}

// dayMore returns what becomes of a cavern behind a day more, on which so many caverns are emptied.
func (p *planner) dayMore(i, need int, x prospect) prospect {
	next := prospect{ends: make([]api.CreepState, len(x.ends)+1)}
	for n, end := range x.ends {
		for m, mode := range p.modes[i] {
			if x.open.has(n) && mode.open && valid.Within(need, m, len(p.Caverns)-1+m) {
				next.reach(n+m, mode.on(end))
			}
		}
	}
	return next
}

// reach puts a state in, together with those that the same number leads to: what is better on a day, each part for itself, is so on all later ones.
func (x *prospect) reach(n int, s api.CreepState) {
	if x.open.has(n) {
		t := x.ends[n]
		s.Radius.High = min(s.Radius.High, t.Radius.High)
		s.Volume.Low = max(s.Volume.Low, t.Volume.Low)
		s.Volume.High = min(s.Volume.High, t.Volume.High)
		s.Lost.High = min(s.Lost.High, t.Lost.High)
	}
	x.open |= only(n)
	x.ends[n] = s
}

// open returns on how many of the days that are left a cavern can be emptied.
func (p *planner) open(at stand, s standing) choices {
	open := p.prospect(s).open
	switch {
	case !p.isFixed(s.cavern):
		return open
	case at.day == 0:
		return open & (only(0) | only(s.left))
	case p.modeIn(at.set, s.cavern) == rests:
		return open & only(0)
	}
	return open & only(s.left)
}

// crowd is how often some number of caverns can be emptied together, at most, on the days that are left.
type crowd [api.CreepCaverns + 1]int

// crowdsOf returns the crowds from each day on, and behind the last one.
func crowdsOf(needs []int, caverns int) []crowd {
	l := make([]crowd, len(needs)+1)
	for day := len(needs) - 1; day >= 0; day-- {
		for n := range caverns + 1 {
			l[day][n] = l[day+1][n] + min(n, needs[day])
		}
	}
	return l
}

// hope is numbers of days for caverns, from the first one on, that could be those of a plan.
type hope struct {
	*planner
	crowd   crowd
	ends    [api.CreepCaverns][]api.CreepState
	grounds []ground
	numbers [api.CreepCaverns]int
}

// hopeful reports whether a plan could go on from where it has come to. If no day is left, it reports whether the plan holds.
func (p *planner) hopeful(at stand) bool {
	h := hope{planner: p, crowd: p.crowds[at.day]}
	var open [api.CreepCaverns]choices
	for i := range p.Caverns {
		s := standing{i, len(p.needs) - at.day, at.states[i]}
		h.ends[i] = p.prospect(s).ends
		open[i] = p.open(at, s)
	}
	for _, house := range p.Houses {
		h.grounds = append(h.grounds, h.ground(house, open))
	}
	return h.choose(0, open)
}

// choose reports whether the caverns from one on can have numbers of those that are open.
func (h *hope) choose(i int, open [api.CreepCaverns]choices) bool {
	if i == len(h.Caverns) {
		return true
	}
	if !h.enough(i, open) {
		return false
	}
	for n := range h.ends[i] {
		h.numbers[i] = n
		if open[i].has(n) && h.fits(i+1) && h.carried(i+1) && h.choose(i+1, h.beside(i, open)) {
			return true
		}
	}
	return false
}

// missing returns how often all caverns but the first ones must be emptied together.
func (h *hope) missing(count int) int {
	missing := h.crowd[len(h.Caverns)]
	for _, n := range h.numbers[:count] {
		missing -= n
	}
	return missing
}

// enough reports whether the caverns from one on have numbers open that are great enough together, and small enough.
func (h *hope) enough(i int, open [api.CreepCaverns]choices) bool {
	least, most := 0, 0
	for _, s := range open[i:len(h.Caverns)] {
		if s == 0 {
			return false
		}
		least += s.least()
		most += s.most()
	}
	return valid.Within(h.missing(i), least, most)
}

// fits reports whether days can be shared out so that the first caverns have their numbers of them (for all caverns, this is the theorem of Gale and Ryser).
func (h *hope) fits(count int) bool {
	l := h.numbers
	slices.Sort(l[:count])
	sum := 0
	for n := range count {
		sum += l[count-1-n]
		if sum > h.crowd[n+1] {
			return false
		}
	}
	return h.missing(count) <= h.crowd[len(h.Caverns)-count]
}

// beside returns what is open if the walls between a cavern, behind its number of days, and later ones are thick enough.
func (h *hope) beside(i int, open [api.CreepCaverns]choices) [api.CreepCaverns]choices {
	radius := h.ends[i][h.numbers[i]].Radius.High
	for j := i + 1; j < len(h.Caverns); j++ {
		for n, end := range h.ends[j] {
			if radius+end.Radius.High > h.radii[i][j] {
				open[j] &^= only(n)
			}
		}
	}
	return open
}

// never is more than any subsidence, and can be added to some without a wrap.
const never = math.MaxInt / 2

// ground is what is below a house: what each cavern makes there at best, by its number of days; and the least that all caverns from one on make together, by the sum of their numbers.
type ground struct {
	most  int
	makes [api.CreepCaverns][]int
	least [api.CreepCaverns + 1][]int
}

// ground returns what is below a house.
func (h *hope) ground(house api.CreepHouse, open [api.CreepCaverns]choices) ground {
	g := ground{most: house.Most}
	g.least[len(h.Caverns)] = []int{0}
	for i := len(h.Caverns) - 1; i >= 0; i-- {
		share := h.share(i, house.X, house.Y).High
		for _, end := range h.ends[i] {
			g.makes[i] = append(g.makes[i], roundedUp(end.Lost.High*share, shareUnit))
		}
		g.least[i] = together(g.makes[i], open[i], g.least[i+1])
	}
	return g
}

// together returns the least that a cavern and those behind it make, by the sum of their numbers.
func together(makes []int, open choices, behind []int) []int {
	l := slices.Repeat([]int{never}, len(makes)+len(behind)-1)
	for n, made := range makes {
		if !open.has(n) {
			continue
		}
		for k, more := range behind {
			l[n+k] = min(l[n+k], made+more)
		}
	}
	return l
}

// carried reports whether no house need sink too far if the first caverns have their numbers of days, which must fit.
func (h *hope) carried(count int) bool {
	missing := h.missing(count)
	for _, g := range h.grounds {
		made := g.least[count][missing]
		for i, n := range h.numbers[:count] {
			made += g.makes[i][n]
		}
		if made > g.most {
			return false
		}
	}
	return true
}
