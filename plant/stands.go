package plant

import (
	"slices"

	"saltdome/api"
)

// A machine for itself can come to few stands, so that all of them can be gone through. All machines together can come to far too many.

// place is where a machine has come to ahead of an hour.
type place struct {
	hour int
	record
}

// option is what a machine can do at a stand: the stand to which it leads, and what it costs, if it is a start.
type option struct {
	does api.PlantState
	next int32
	cost int
}

// stand is a place with its options. Stands of the same kin differ in nothing but what is left, and with more left a machine can do all that it can do with less.
type stand struct {
	place
	kin     int32
	options []option
}

// paths are the stands to which machines can come that are alike. Each one leads to those with greater numbers only.
type paths struct {
	machine
	hours   int
	stands  []stand
	numbers map[place]int32
	kins    map[place]int32
}

func newPaths(m machine, hours int) *paths {
	return &paths{machine: m, hours: hours, numbers: map[place]int32{}, kins: map[place]int32{}}
}

// alike reports whether machines differ in nothing but what they did ahead of the first hour.
func alike(a, b machine) bool {
	return a.Kind == b.Kind && slices.Equal(a.Rows, b.Rows) && a.Start == b.Start && a.Up == b.Up && a.Down == b.Down &&
		a.Life == b.Life && a.Service == b.Service
}

// startCost returns what a start of a machine costs.
func startCost(m machine) int { return m.Start*wattHour + 1 }

// numberOf returns the number of a place in a map, which is a new one if it has none.
func numberOf(numbers map[place]int32, at place) int32 {
	n, ok := numbers[at]
	if !ok {
		n = int32(len(numbers))
		numbers[at] = n
	}
	return n
}

// stand returns the number of the stand at a place.
func (p *paths) stand(at place) int32 {
	at = p.merged(at)
	n := numberOf(p.numbers, at)
	if int(n) == len(p.stands) {
		family := at
		family.left = 0
		p.stands = append(p.stands, stand{place: at, kin: numberOf(p.kins, family)})
	}
	return n
}

// merged returns the one place for all those from which the same can be done: no more hours can be owed, or be left, than there are; what is left ahead of a service does not matter in it; and another service behind one that is complete is useless.
func (p *paths) merged(at place) place {
	rest := p.hours - at.hour
	at.owed, at.left = min(at.owed, rest), min(at.left, rest)
	switch {
	case at.due > 0:
		at.left = 0
	case at.doing == api.PlantServed:
		at.doing = api.PlantStands
	}
	return at
}

// useless reports whether a machine that is serviced at a place might as well stand for so long: then it has as much left for the hours behind that.
func (p *paths) useless(at place) bool {
	return at.due == 0 && at.left >= min(p.Life, p.hours-at.hour-p.Service)
}

// can reports whether a machine can do something at a place, and whether that can be in the best schedule.
func (p *paths) can(at place, does api.PlantState) bool {
	return !at.stopsEarly(does) && !at.startsEarly(does) && !at.cuts(does) && !at.wears(does) &&
		(does != api.PlantServed || !p.useless(at))
}

// grow adds all stands to which there is a way from those that are there, and leaves out ways that do not lead to the end of the hours.
func (p *paths) grow() {
	for n := 0; n < len(p.stands); n++ {
		// To find options adds stands, so it must be over before the list of stands is looked at.
		options := p.options(p.stands[n].place)
		p.stands[n].options = options
	}
	for n := len(p.stands) - 1; n >= 0; n-- {
		s := &p.stands[n]
		s.options = slices.DeleteFunc(s.options, func(o option) bool { return p.isDead(o.next) })
	}
}

// options returns what a machine can do at a place.
func (p *paths) options(at place) []option {
	var l []option
	for does := api.PlantStands; does <= api.PlantServed && at.hour < p.hours; does++ {
		if !p.can(at, does) {
			continue
		}
		o := option{does: does, next: p.stand(place{at.hour + 1, p.after(at.record, does)})}
		if at.starts(does) {
			o.cost = startCost(p.machine)
		}
		l = append(l, o)
	}
	return l
}

// isDead reports whether there is nothing that a machine can do at a stand.
func (p *paths) isDead(n int32) bool {
	return p.stands[n].hour < p.hours && len(p.stands[n].options) == 0
}
