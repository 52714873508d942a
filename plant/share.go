package plant

import (
	"cmp"
	"iter"
	"slices"

	"saltdome/api"
)

// kinds is how many kinds of machines there are.
const kinds = int(api.PlantDry)

// set is a set of machines: the bits of their numbers.
type set uint

func (s set) has(number int) bool { return s>>number&1 == 1 }

func (s set) with(number int) set { return s | 1<<number }

func (s set) without(number int) set { return s &^ (1 << number) }

// setOf returns the set of the machines that run.
func setOf(runs []bool) set {
	var s set
	for number, run := range runs {
		if run {
			s = s.with(number)
		}
	}
	return s
}

// exactly returns the span of one number.
func exactly(n int) api.Span { return api.Span{Low: n, High: n} }

// machine is a machine of a plant that is looked at, with its number.
type machine struct {
	api.PlantMachine
	number int
}

// row returns the row at a ratio.
func (m machine) row(ratio int) api.PlantRow {
	for _, r := range m.Rows {
		if r.Ratio >= ratio {
			return r
		}
	}
	return api.PlantRow{}
}

// survey is a plant that is looked at; it and all that is asked of it are as defined.
type survey struct {
	machines []machine
}

func newSurvey(l []api.PlantMachine) survey {
	var v survey
	for number, m := range l {
		v.machines = append(v.machines, machine{m, number})
	}
	return v
}

// ratios goes through the ratios of a span that matter: the least one, and each at which some machine has another row than just below.
func (v survey) ratios(s api.Span) iter.Seq[int] {
	return func(yield func(int) bool) {
		for ratio := s.Low; ratio <= s.High && yield(ratio); {
			ratio = v.change(ratio)
		}
	}
}

// change returns the first ratio above another one at which some machine has another row.
func (v survey) change(ratio int) int {
	next := api.PlantRatio + 1
	for _, m := range v.machines {
		if last := m.row(ratio).Ratio; last >= ratio {
			next = min(next, last+1)
		}
	}
	return next
}

// runner is a machine that runs at a ratio, with its row.
type runner struct {
	machine
	api.PlantRow
}

// runners returns the machines of a kind that run, at a ratio, and whether the plant has any of this kind.
func (v survey) runners(kind api.PlantKind, running set, ratio int) ([]runner, bool) {
	var l []runner
	has := false
	for _, m := range v.machines {
		has = has || m.Kind == kind
		if m.Kind == kind && running.has(m.number) {
			l = append(l, runner{m, m.row(ratio)})
		}
	}
	return l, has
}

// short returns the first kind of machines that cannot carry a flow at some ratio of a span; 0, if there is none.
func (v survey) short(running set, flow int, ratios api.Span) api.PlantKind {
	for kind := api.PlantCompress; kind <= api.PlantDry; kind++ {
		for ratio := range v.ratios(ratios) {
			most := 0
			runners, has := v.runners(kind, running, ratio)
			for _, r := range runners {
				most += r.Most
			}
			if has && most < flow {
				return kind
			}
		}
	}
	return 0
}

// carry reports whether machines carry a flow at each ratio of a span.
func (v survey) carry(running set, flow int, ratios api.Span) bool {
	return v.short(running, flow, ratios) == 0
}

// weak returns the first machine without which the others do not carry a flow that all carry; -1, if there is none. One that does not run is never missing.
func (v survey) weak(running set, flow int, ratios api.Span) int {
	return slices.IndexFunc(v.machines, func(m machine) bool {
		return !v.carry(running.without(m.number), flow, ratios)
	})
}

// sharing is how a flow is shared: the share of each machine, the price of each kind, and the energy of all.
type sharing struct {
	shares []int
	prices []int
	energy int
}

// share shares a flow that machines carry among them. As long as some get less than their Least, nothing is left for more.
func (v survey) share(running set, flow, ratio int) sharing {
	x := sharing{shares: make([]int, len(v.machines)), prices: make([]int, kinds)}
	for kind := range kinds {
		runners, _ := v.runners(api.PlantCompress+api.PlantKind(kind), running, ratio)
		left := flow
		for _, r := range runners {
			x.shares[r.number] = min(left, r.Least)
			left -= x.shares[r.number]
			x.energy += r.Least * r.Energy
		}
		for _, r := range ordered(runners, func(r runner) int { return r.Energy }) {
			if more := min(left, r.Most-r.Least); more > 0 {
				x.shares[r.number] += more
				left -= more
				x.energy += more * r.Energy
				x.prices[kind] = r.Energy
			}
		}
	}
	return x
}

// ordered returns the items of a list in the order of some number of each; items with the same number stay in the order that they have.
func ordered[T any](l []T, number func(T) int) []T {
	l = slices.Clone(l)
	slices.SortStableFunc(l, func(a, b T) int { return cmp.Compare(number(a), number(b)) })
	return l
}

// energies returns the energies that machines take for the flow of an hour, at all ratios that matter.
func (v survey) energies(running set, hour api.PlantHour) []int {
	var l []int
	for ratio := range v.ratios(hour.Ratio) {
		l = append(l, v.share(running, hour.Flow, ratio).energy)
	}
	return l
}

// bounds returns the least and the greatest one of some energies.
func bounds(energies ...int) api.Span {
	return api.Span{Low: slices.Min(energies), High: slices.Max(energies)}
}
