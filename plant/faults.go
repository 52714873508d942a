package plant

import "saltdome/api"

// record is what counts of all that a machine did up to some hour.
type record struct {
	// doing is what it did in the hour before.
	doing api.PlantState
	// owed is for how many hours more it has to run, or must not, as it did in the hour before.
	owed int
	// due is how many hours its service still takes.
	due int
	// left is for how many hours it can run until it is serviced.
	left int
}

// first returns the record ahead of the first hour.
func (m machine) first() record {
	if m.Runs {
		return record{doing: api.PlantRuns, owed: max(0, m.Up-m.Since), left: m.Left}
	}
	return record{doing: api.PlantStands, owed: max(0, m.Down-m.Since), left: m.Left}
}

// after returns the record behind an hour in which the machine does something that breaks no rule.
func (m machine) after(r record, does api.PlantState) record {
	next := record{doing: does, owed: r.owed, left: r.left}
	switch {
	case r.starts(does):
		next.owed = m.Up
	case r.stops(does):
		next.owed = m.Down
	}
	next.owed = max(0, next.owed-1)
	switch does {
	case api.PlantRuns:
		next.left--
	case api.PlantServed:
		next.due = m.Service - 1
		if r.doing == api.PlantServed {
			next.due = r.due - 1
		}
		if next.due == 0 {
			next.left = m.Life
		}
	}
	return next
}

func (r record) starts(does api.PlantState) bool {
	return r.doing != api.PlantRuns && does == api.PlantRuns
}

func (r record) stops(does api.PlantState) bool {
	return r.doing == api.PlantRuns && does != api.PlantRuns
}

// stopsEarly: it has run for too few hours.
func (r record) stopsEarly(does api.PlantState) bool { return r.stops(does) && r.owed > 0 }

// startsEarly: it has stood for too few hours.
func (r record) startsEarly(does api.PlantState) bool { return r.starts(does) && r.owed > 0 }

// cuts: its service is over too early, or goes on for too long.
func (r record) cuts(does api.PlantState) bool {
	return r.doing == api.PlantServed && (does == api.PlantServed) == (r.due == 0)
}

// wears: it has nothing left.
func (r record) wears(does api.PlantState) bool { return does == api.PlantRuns && r.left == 0 }

// look is an hour of a schedule that is looked at: what counts of the hours ahead of it, and what the machines do in it.
type look struct {
	survey
	api.PlantHour
	records []record
	does    []api.PlantState
}

// fault returns the first fault of a schedule.
func (v survey) fault(hours []api.PlantHour, schedule [][]api.PlantState) api.PlantFault {
	x := look{survey: v}
	for _, m := range v.machines {
		x.records = append(x.records, m.first())
	}
	for hour, does := range schedule {
		x.PlantHour, x.does = hours[hour], does
		if rule, of := x.fault(); rule != api.PlantFine {
			return api.PlantFault{Hour: hour, Rule: rule, Of: of}
		}
		for i, m := range v.machines {
			x.records[i] = m.after(x.records[i], does[i])
		}
	}
	return api.PlantFault{Rule: api.PlantFine}
}

// fault returns the first rule that is broken in the hour. A rule tells by which machine, or kind of machines, and whether it is broken.
func (x look) fault() (api.PlantRule, int) {
	rules := [...]func() (int, bool){
		api.PlantUp:    x.up,
		api.PlantDown:  x.down,
		api.PlantCut:   x.cut,
		api.PlantCrew:  x.crew,
		api.PlantWorn:  x.worn,
		api.PlantShort: x.tooLittle,
	}
	for rule := api.PlantUp; rule <= api.PlantShort; rule++ {
		if of, broken := rules[rule](); broken {
			return rule, of
		}
	}
	return api.PlantFine, 0
}

// firstThat returns the first machine that breaks a rule.
func (x look) firstThat(breaks func(record, api.PlantState) bool) (int, bool) {
	for i, r := range x.records {
		if breaks(r, x.does[i]) {
			return i, true
		}
	}
	return 0, false
}

func (x look) up() (int, bool) { return x.firstThat(record.stopsEarly) }

func (x look) down() (int, bool) { return x.firstThat(record.startsEarly) }

func (x look) cut() (int, bool) { return x.firstThat(record.cuts) }

// crew: the second machine that is serviced finds no crew.
func (x look) crew() (int, bool) {
	serviced := 0
	return x.firstThat(func(_ record, does api.PlantState) bool {
		if does == api.PlantServed {
			serviced++
		}
		return serviced > 1
	})
}

func (x look) worn() (int, bool) { return x.firstThat(record.wears) }

// tooLittle: some kind of machines cannot carry the flow.
func (x look) tooLittle() (int, bool) {
	kind := x.short(runningIn(x.does), x.Flow, x.Ratio)
	return int(kind), kind != 0
}

// runningIn returns the set of the machines that run in an hour.
func runningIn(does []api.PlantState) set {
	var s set
	for number, state := range does {
		if state == api.PlantRuns {
			s = s.with(number)
		}
	}
	return s
}

// cost returns the bounds of the energy of a schedule without faults, and how many starts it has.
func (v survey) cost(hours []api.PlantHour, schedule [][]api.PlantState) (api.Span, int) {
	energy, count := v.starts(schedule)
	all := exactly(energy)
	for hour, does := range schedule {
		b := bounds(v.energies(runningIn(does), hours[hour])...)
		all.Low += b.Low
		all.High += b.High
	}
	return all, count
}

// starts returns the energy of all starts, and how many there are.
func (v survey) starts(schedule [][]api.PlantState) (int, int) {
	energy, count := 0, 0
	for i, m := range v.machines {
		before := m.first()
		for _, does := range schedule {
			if before.starts(does[i]) {
				energy += m.Start
				count++
			}
			before.doing = does[i]
		}
	}
	return energy, count
}
