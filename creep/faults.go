package creep

import "saltdome/api"

// sureness is how sure a fault is that is looked for.
type sureness int

const (
	possible sureness = iota
	certain
)

// less reports whether a number between bounds is less than a limit, as surely as is asked.
func (s sureness) less(n api.Span, limit int) bool {
	if s == certain {
		return n.High < limit
	}
	return n.Low < limit
}

// more reports whether a number between bounds is more than a limit, as surely as is asked.
func (s sureness) more(n api.Span, limit int) bool {
	if s == certain {
		return n.Low > limit
	}
	return n.High > limit
}

// look is a day that is looked at, with the day before it, if there is one, and the states behind it. If it is known no longer, because a cavern has something beyond a table, there are no states.
type look struct {
	survey
	sureness
	number int
	before []api.CreepDay
	day    api.CreepDay
	behind []api.CreepState
	beyond int
	known  bool
}

// faults returns the first possible and the first certain fault of some days.
func (v survey) faults(days []api.CreepDay) (api.CreepFault, api.CreepFault) {
	may, must := noFault(), noFault()
	states := v.begin()
	for k, d := range days {
		x := look{survey: v, number: k, before: days[max(0, k-1):k], day: d}
		x.behind, x.beyond, x.known = v.after(states, d)
		if may.Rule == api.CreepFine {
			may = x.fault(possible)
		}
		if !x.known {
			break
		}
		if must.Rule == api.CreepFine {
			must = x.fault(certain)
		}
		states = x.behind
	}
	return may, must
}

func noFault() api.CreepFault { return api.CreepFault{Rule: api.CreepFine} }

// fault returns the first fault of a day. A rule tells a cavern or a house, of a wall the other cavern, and whether the rule is broken.
func (x look) fault(s sureness) api.CreepFault {
	x.sureness = s
	rules := [...]func() (int, int, bool){
		api.CreepBeyond: x.unknown,
		api.CreepGate:   x.outside,
		api.CreepFast:   x.fast,
		api.CreepSmall:  x.small,
		api.CreepThin:   x.thin,
		api.CreepSunk:   x.tooSunk,
	}
	for rule := api.CreepBeyond; rule <= api.CreepSunk; rule++ {
		if of, with, broken := rules[rule](); broken {
			return api.CreepFault{Day: x.number, Rule: rule, Of: of, With: with}
		}
	}
	return noFault()
}

// unknown: something is beyond a table.
func (x look) unknown() (int, int, bool) { return x.beyond, 0, !x.known }

// outside: a pressure is outside its gate.
func (x look) outside() (int, int, bool) {
	for i, c := range x.Caverns {
		if p := x.day.Pressures[i]; x.less(p, c.Gate.Low) || x.more(p, c.Gate.High) {
			return i, 0, true
		}
	}
	return 0, 0, false
}

// fast: a pressure has changed too much since the day before.
func (x look) fast() (int, int, bool) {
	for _, before := range x.before {
		for i, c := range x.Caverns {
			if x.more(change(before.Pressures[i], x.day.Pressures[i]), c.Change) {
				return i, 0, true
			}
		}
	}
	return 0, 0, false
}

// change returns the bounds of the difference of two numbers between bounds.
func change(a, b api.Span) api.Span {
	down, up := a.High-b.Low, b.High-a.Low
	return api.Span{Low: max(0, -down, -up), High: max(down, up)}
}

// small: a volume is too small.
func (x look) small() (int, int, bool) {
	for i, c := range x.Caverns {
		if x.less(x.behind[i].Volume, c.Floor) {
			return i, 0, true
		}
	}
	return 0, 0, false
}

// thin: a wall is too thin.
func (x look) thin() (int, int, bool) {
	for i, j := range pairs(len(x.Caverns)) {
		if x.less(x.wall(i, j, x.behind[i].Radius, x.behind[j].Radius), x.Wall) {
			return i, j, true
		}
	}
	return 0, 0, false
}

// tooSunk: a house has sunk too far.
func (x look) tooSunk() (int, int, bool) {
	for k, h := range x.Houses {
		if x.more(x.sunk(x.behind, h.X, h.Y), h.Most) {
			return k, 0, true
		}
	}
	return 0, 0, false
}
