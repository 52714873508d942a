package creep

import (
	"math/bits"

	"saltdome/api"
	"saltdome/valid"
)

// planner is a site for which a plan is wanted. A set of caverns has a bit for each, the highest one for the cavern 0: of two sets of equally many caverns, the greater one comes first.
type planner struct {
	survey
	needs  []int
	modes  [api.CreepCaverns][2]mode               // how each cavern rests, and how it is emptied
	fixed  int                                     // the set of caverns whose pressure cannot change between the two
	radii  [api.CreepCaverns][api.CreepCaverns]int // how great those of two caverns can be together
	crowds []crowd
	known  map[standing]*prospect
}

// mode is what one of its pressures does to a cavern, and whether no table and no gate forbids it.
type mode struct {
	force
	open bool
}

// The modes of a cavern.
const (
	rests = iota
	emptied
)

// stand is where a search of plans has come to: the day, which of the fixed caverns are emptied, and the states.
type stand struct {
	day    int
	set    int
	states [api.CreepCaverns]api.CreepState
}

func newPlanner(v survey, low, rest []int, warmth api.Span, needs []int) *planner {
	p := &planner{survey: v, needs: needs, crowds: crowdsOf(needs, len(v.Caverns)), known: map[standing]*prospect{}}
	for i, c := range v.Caverns {
		p.modes[i] = [...]mode{rests: v.mode(i, rest[i], warmth), emptied: v.mode(i, low[i], warmth)}
		if possible.more(change(exactly(low[i]), exactly(rest[i])), c.Change) {
			p.fixed |= p.bit(i)
		}
	}
	for i, j := range pairs(len(v.Caverns)) {
		p.radii[i][j] = v.apart(i, j) - v.Wall
	}
	return p
}

// mode returns what a pressure does to a cavern.
func (v survey) mode(i, pressure int, warmth api.Span) mode {
	var m mode
	_, gaveUp := attempt(func() { m.force = v.force(i, exactly(pressure), warmth) })
	m.open = !gaveUp && valid.Within(pressure, v.Caverns[i].Gate.Low, v.Caverns[i].Gate.High)
	return m
}

// bit returns the set of one cavern.
func (p *planner) bit(i int) int { return 1 << (len(p.Caverns) - 1 - i) }

// modeIn returns the mode of a cavern on a day with a set.
func (p *planner) modeIn(set, i int) int {
	if set&p.bit(i) == 0 {
		return rests
	}
	return emptied
}

// isFixed reports whether a cavern has the same mode on all days.
func (p *planner) isFixed(i int) bool { return p.fixed&p.bit(i) != 0 }

// first returns the sets of the first plan that holds; false, if none does.
func (p *planner) first() ([]int, bool) {
	var plan []int
	all := 1<<len(p.Caverns) - 1
	hopeless := map[stand]bool{}
	var search func(stand) bool
	search = func(at stand) bool {
		if hopeless[at] {
			return false
		}
		if p.hopeful(at) {
			if at.day == len(p.needs) {
				return true
			}
		sets:
			for resting := range all + 1 {
				set := all - resting
				if bits.OnesCount(uint(set)) != p.needs[at.day] {
					continue
				}
				for i := range p.Caverns {
					if !p.may(at, i, set) {
						continue sets
					}
				}
				plan = append(plan[:at.day], set)
				if search(p.next(at, set)) {
					return true
				}
			}
		}
		hopeless[at] = true
		return false
	}
	// The search sets the plan, so it must be over before the plan is looked at.
	found := len(p.needs) == 0 || search(p.start())
	return plan, found
}

// may reports whether a cavern can have its mode in a set, as far as tables, its gate and the day before allow it.
func (p *planner) may(at stand, i, set int) bool {
	m := p.modeIn(set, i)
	return p.modes[i][m].open && (at.day == 0 || !p.isFixed(i) || m == p.modeIn(at.set, i))
}

// start returns where a search begins.
func (p *planner) start() stand {
	var at stand
	for i, c := range p.Caverns {
		at.states[i] = p.atWorst(firstState(c))
	}
	return at
}

// next returns where a search comes to behind a day with a set.
func (p *planner) next(at stand, set int) stand {
	n := stand{day: at.day + 1, set: set & p.fixed}
	for i := range p.Caverns {
		n.states[i] = p.atWorst(p.modes[i][p.modeIn(set, i)].on(at.states[i]))
	}
	return n
}

// atWorst leaves out of a state what no possible fault depends on, so that more states are equal.
func (p *planner) atWorst(s api.CreepState) api.CreepState {
	s.Radius.Low, s.Lost.Low = 0, 0
	if len(p.Houses) == 0 {
		s.Volume.High, s.Lost.High = 0, 0
	}
	return s
}

// lists returns sets as lists.
func (p *planner) lists(sets []int) [][]int {
	l := make([][]int, len(sets))
	for day, set := range sets {
		for i := range p.Caverns {
			if p.modeIn(set, i) == emptied {
				l[day] = append(l[day], i)
			}
		}
	}
	return l
}
