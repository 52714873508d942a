package plant_test

import (
	"math"
	"math/rand"
	"reflect"
	"slices"

	"saltdome/api"
)

// Short names for what machines do in an hour.
const (
	stands = api.PlantStands
	runs   = api.PlantRuns
	served = api.PlantServed
)

func span(low, high int) api.Span { return api.Span{Low: low, High: high} }

func exactly(n int) api.Span { return span(n, n) }

func row(ratio, least, most, energy int) api.PlantRow {
	return api.PlantRow{Ratio: ratio, Least: least, Most: most, Energy: energy}
}

// machineM and machineN return the machines m and n of the chapter.
func machineM() api.PlantMachine {
	return api.PlantMachine{Kind: api.PlantCompress, Rows: []api.PlantRow{row(2000, 100, 400, 5), row(3000, 150, 300, 9)}, Start: 1000, Up: 2, Down: 1, Left: 3, Life: 10, Service: 1, Since: 5}
}

func machineN() api.PlantMachine {
	return api.PlantMachine{Kind: api.PlantCompress, Rows: []api.PlantRow{row(3000, 50, 200, 6)}, Start: 300, Up: 1, Down: 1, Left: 10, Life: 10, Service: 2, Runs: true, Since: 1}
}

func example() []api.PlantMachine { return plantOf(machineM(), machineN()) }

func plantOf(l ...api.PlantMachine) []api.PlantMachine { return l }

// exampleHours returns the hours h of the chapter.
func exampleHours() []api.PlantHour {
	return hoursOf(hour(150, 1500, 2500), hour(350, 1500, 1800), hour(150, 2500, 2500))
}

func hour(flow, low, high int) api.PlantHour {
	return api.PlantHour{Flow: flow, Ratio: span(low, high)}
}

func hoursOf(l ...api.PlantHour) []api.PlantHour { return l }

// scheduleOf returns a schedule of hours, each written as what the machines do: - stands, r runs, s is serviced.
func scheduleOf(hours ...string) [][]api.PlantState {
	var l [][]api.PlantState
	for _, h := range hours {
		var does []api.PlantState
		for _, letter := range h {
			does = append(does, map[rune]api.PlantState{'-': stands, 'r': runs, 's': served}[letter])
		}
		l = append(l, does)
	}
	return l
}

// free returns a compressor that carries up to most for an energy of 1, and is bound by no rule but that of the flow.
func free(most int) api.PlantMachine {
	return api.PlantMachine{Kind: api.PlantCompress, Rows: []api.PlantRow{row(api.PlantRatio, 0, most, 1)}, Up: 1, Down: 1, Left: api.PlantTimes, Life: api.PlantTimes, Service: 1, Since: 1}
}

// with returns a machine that is changed.
func with(m api.PlantMachine, change func(*api.PlantMachine)) api.PlantMachine {
	m.Rows = slices.Clone(m.Rows)
	change(&m)
	return m
}

// idle returns hours without any flow.
func idle(count int) []api.PlantHour { return slices.Repeat(hoursOf(hour(0, 1000, 1000)), count) }

func copied(l []api.PlantMachine) []api.PlantMachine {
	l = slices.Clone(l)
	for i := range l {
		l[i].Rows = slices.Clone(l[i].Rows)
	}
	return l
}

// rowAsSaid, and all that is named so, is what the chapter says, word by word.
func rowAsSaid(m api.PlantMachine, ratio int) api.PlantRow {
	for _, r := range m.Rows {
		if ratio <= r.Ratio {
			return r
		}
	}
	return api.PlantRow{}
}

// shortAsSaid returns the first kind that cannot carry a flow at a ratio; 0, if there is none.
func shortAsSaid(l []api.PlantMachine, running []bool, flow, ratio int) api.PlantKind {
	for _, kind := range []api.PlantKind{api.PlantCompress, api.PlantCool, api.PlantDry} {
		has, sum := false, 0
		for i, m := range l {
			if m.Kind == kind {
				has = true
				if running[i] {
					sum += rowAsSaid(m, ratio).Most
				}
			}
		}
		if has && sum < flow {
			return kind
		}
	}
	return 0
}

// carriedAsSaid reports whether machines carry a flow at each ratio of a span.
func carriedAsSaid(l []api.PlantMachine, running []bool, flow int, ratios api.Span) bool {
	for ratio := ratios.Low; ratio <= ratios.High; ratio++ {
		if shortAsSaid(l, running, flow, ratio) != 0 {
			return false
		}
	}
	return true
}

// energyAsSaid returns the energy of machines with some shares.
func energyAsSaid(l []api.PlantMachine, running []bool, shares []int, ratio int) int {
	energy := 0
	for i, m := range l {
		if r := rowAsSaid(m, ratio); running[i] {
			energy += r.Energy * max(r.Least, shares[i])
		}
	}
	return energy
}

// shareAsSaid returns shares and prices of a flow that is carried: a unit after the other is given to the machine whose turn it is.
func shareAsSaid(l []api.PlantMachine, running []bool, flow, ratio int) ([]int, []int) {
	shares, prices := make([]int, len(l)), make([]int, 3)
	for kind := api.PlantCompress; kind <= api.PlantDry; kind++ {
		if !slices.ContainsFunc(l, func(m api.PlantMachine) bool { return m.Kind == kind }) {
			continue
		}
		for range flow {
			next := -1
			for i, m := range l {
				r := rowAsSaid(m, ratio)
				switch {
				case m.Kind != kind || !running[i] || shares[i] == r.Most:
				case shares[i] < r.Least && (next < 0 || shares[next] >= rowAsSaid(l[next], ratio).Least):
					next = i
				case next < 0 || shares[i] >= r.Least && shares[next] >= rowAsSaid(l[next], ratio).Least && r.Energy < rowAsSaid(l[next], ratio).Energy:
					next = i
				}
			}
			shares[next]++
		}
		for i, m := range l {
			if r := rowAsSaid(m, ratio); m.Kind == kind && shares[i] > r.Least {
				prices[kind-1] = max(prices[kind-1], r.Energy)
			}
		}
	}
	return shares, prices
}

// history is what a machine of a plant does in all hours.
type history struct {
	api.PlantMachine
	does []api.PlantState
}

func historyOf(l []api.PlantMachine, schedule [][]api.PlantState, i int) history {
	x := history{PlantMachine: l[i]}
	for _, does := range schedule {
		x.does = append(x.does, does[i])
	}
	return x
}

// ran reports whether a machine ran in an hour, the one ahead of the first being -1.
func (x history) ran(h int) bool {
	if h < 0 {
		return x.Runs
	}
	return x.does[h] == runs
}

// lasted returns for how many hours up to the one before an hour the machine did as in that one.
func (x history) lasted(h int) int {
	for n := 0; ; n++ {
		switch {
		case n == h && x.Runs == x.ran(h-1):
			return n + x.Since
		case n == h || x.ran(h-1-n) != x.ran(h-1):
			return n
		}
	}
}

// servedFor returns for how many hours up to the one before an hour it was serviced.
func (x history) servedFor(h int) int {
	n := 0
	for n < h && x.does[h-1-n] == served {
		n++
	}
	return n
}

// left returns how many hours it has left in an hour.
func (x history) left(h int) int {
	left, from := x.Left, 0
	for k := range h {
		if x.servedFor(k+1) == x.Service {
			left, from = x.Life, k+1
		}
	}
	for k := from; k < h; k++ {
		if x.ran(k) {
			left--
		}
	}
	return left
}

// faultAsSaid returns the first fault of a schedule.
func faultAsSaid(l []api.PlantMachine, hours []api.PlantHour, schedule [][]api.PlantState) api.PlantFault {
	var all []history
	for i := range l {
		all = append(all, historyOf(l, schedule, i))
	}
	for h := range hours {
		rules := []struct {
			rule   api.PlantRule
			broken func(i int, x history) bool
		}{
			{api.PlantUp, func(_ int, x history) bool { return !x.ran(h) && x.ran(h-1) && x.lasted(h) < x.Up }},
			{api.PlantDown, func(_ int, x history) bool { return x.ran(h) && !x.ran(h-1) && x.lasted(h) < x.Down }},
			{api.PlantCut, func(_ int, x history) bool {
				before := x.servedFor(h)
				return x.does[h] != served && before > 0 && before < x.Service || x.does[h] == served && before >= x.Service
			}},
			{api.PlantCrew, func(i int, x history) bool { return x.does[h] == served && slices.Contains(schedule[h][:i], served) }},
			{api.PlantWorn, func(_ int, x history) bool { return x.ran(h) && x.left(h) <= 0 }},
		}
		for _, r := range rules {
			for i, x := range all {
				if r.broken(i, x) {
					return api.PlantFault{Hour: h, Rule: r.rule, Of: i}
				}
			}
		}
		if kind := shortInHour(l, schedule[h], hours[h]); kind != 0 {
			return api.PlantFault{Hour: h, Rule: api.PlantShort, Of: int(kind)}
		}
	}
	return api.PlantFault{Rule: api.PlantFine}
}

// shortInHour returns the first kind that cannot carry the flow of an hour at some ratio; 0, if there is none.
func shortInHour(l []api.PlantMachine, does []api.PlantState, h api.PlantHour) api.PlantKind {
	var first api.PlantKind
	for ratio := h.Ratio.Low; ratio <= h.Ratio.High; ratio++ {
		if kind := shortAsSaid(l, runningOf(does), h.Flow, ratio); kind != 0 && (first == 0 || kind < first) {
			first = kind
		}
	}
	return first
}

func runningOf(does []api.PlantState) []bool {
	var l []bool
	for _, s := range does {
		l = append(l, s == runs)
	}
	return l
}

// startsAsSaid returns how many starts a schedule has, and their energy.
func startsAsSaid(l []api.PlantMachine, schedule [][]api.PlantState) (int, int) {
	count, energy := 0, 0
	for i, m := range l {
		x := historyOf(l, schedule, i)
		for h := range schedule {
			if x.ran(h) && !x.ran(h-1) {
				count++
				energy += m.Start
			}
		}
	}
	return count, energy
}

// hourAsSaid returns the bounds of the energy in an hour, that of starts left out.
func hourAsSaid(l []api.PlantMachine, does []api.PlantState, h api.PlantHour) api.Span {
	b := span(math.MaxInt, 0)
	for ratio := h.Ratio.Low; ratio <= h.Ratio.High; ratio++ {
		shares, _ := shareAsSaid(l, runningOf(does), h.Flow, ratio)
		energy := energyAsSaid(l, runningOf(does), shares, ratio)
		b = span(min(b.Low, energy), max(b.High, energy))
	}
	return b
}

// costAsSaid returns the bounds of the energy of a schedule without faults.
func costAsSaid(l []api.PlantMachine, hours []api.PlantHour, schedule [][]api.PlantState) api.Span {
	_, energy := startsAsSaid(l, schedule)
	all := exactly(energy)
	for h, does := range schedule {
		b := hourAsSaid(l, does, hours[h])
		all = span(all.Low+b.Low, all.High+b.High)
	}
	return all
}

// someMachine returns a machine with small numbers, whose rows end at ratios up to 1000 + wide.
func someMachine(r *rand.Rand, kinds, wide int) api.PlantMachine {
	m := api.PlantMachine{Kind: api.PlantKind(1 + r.Intn(kinds)), Start: r.Intn(30), Up: 1 + r.Intn(3), Down: 1 + r.Intn(3), Left: r.Intn(6), Life: r.Intn(6), Service: 1 + r.Intn(2), Runs: r.Intn(2) == 0, Since: r.Intn(4)}
	ratio := 1000
	for range 1 + r.Intn(3) {
		ratio += r.Intn(wide/3 + 1)
		most := r.Intn(9)
		m.Rows = append(m.Rows, row(ratio, r.Intn(most+1), most, r.Intn(6)))
		ratio++
	}
	if r.Intn(3) > 0 {
		m.Rows[len(m.Rows)-1].Ratio = api.PlantRatio
	}
	return m
}

func somePlant(r *rand.Rand, machines, kinds, wide int) []api.PlantMachine {
	var l []api.PlantMachine
	for range machines {
		l = append(l, someMachine(r, kinds, wide))
	}
	return l
}

func someRatios(r *rand.Rand, wide int) api.Span {
	low := 1000 + r.Intn(wide)
	return span(low, low+r.Intn(2)*r.Intn(wide))
}

func someHours(r *rand.Rand, count, flow, wide int) []api.PlantHour {
	var l []api.PlantHour
	for range count {
		l = append(l, api.PlantHour{Flow: r.Intn(flow + 1), Ratio: someRatios(r, wide)})
	}
	return l
}

func someRunning(r *rand.Rand, count int) []bool {
	var l []bool
	for range count {
		l = append(l, r.Intn(4) > 0)
	}
	return l
}

// someSchedule returns a schedule in which machines seldom change what they do.
func someSchedule(r *rand.Rand, l []api.PlantMachine, hours int) [][]api.PlantState {
	before := make([]api.PlantState, len(l))
	for i, m := range l {
		if m.Runs {
			before[i] = runs
		}
	}
	var schedule [][]api.PlantState
	for range hours {
		before = slices.Clone(before)
		for range r.Intn(3) {
			before[r.Intn(len(l))] = api.PlantState(r.Intn(3))
		}
		schedule = append(schedule, before)
	}
	return schedule
}

// badMachine is a machine that is not as defined, made of the machine m.
type badMachine struct {
	name   string
	change func(*api.PlantMachine)
}

func badMachines() []badMachine {
	return []badMachine{
		{"no machine", func(m *api.PlantMachine) { *m = api.PlantMachine{} }},
		{"no kind", func(m *api.PlantMachine) { m.Kind = 0 }},
		{"a kind less than 0", func(m *api.PlantMachine) { m.Kind = -1 }},
		{"a kind that there is not", func(m *api.PlantMachine) { m.Kind = 4 }},
		{"no rows", func(m *api.PlantMachine) { m.Rows = nil }},
		{"too many rows", func(m *api.PlantMachine) {
			m.Rows = nil
			for i := range api.PlantRows + 1 {
				m.Rows = append(m.Rows, row(1000+i, 0, 1, 1))
			}
		}},
		{"too small a ratio", func(m *api.PlantMachine) { m.Rows[0].Ratio = 999 }},
		{"too great a ratio", func(m *api.PlantMachine) { m.Rows[1].Ratio = api.PlantRatio + 1 }},
		{"a ratio twice", func(m *api.PlantMachine) { m.Rows[1].Ratio = 2000 }},
		{"ratios that fall", func(m *api.PlantMachine) { m.Rows[1].Ratio = 1999 }},
		{"a least flow less than 0", func(m *api.PlantMachine) { m.Rows[0].Least = -1 }},
		{"more at least than at most", func(m *api.PlantMachine) { m.Rows[0].Least = 401 }},
		{"too great a flow", func(m *api.PlantMachine) { m.Rows[1].Most = api.PlantFlow + 1 }},
		{"an energy less than 0", func(m *api.PlantMachine) { m.Rows[1].Energy = -1 }},
		{"too great an energy", func(m *api.PlantMachine) { m.Rows[0].Energy = api.PlantEnergy + 1 }},
		{"a start less than 0", func(m *api.PlantMachine) { m.Start = -1 }},
		{"too great a start", func(m *api.PlantMachine) { m.Start = api.PlantStart + 1 }},
		{"no hours to run at least", func(m *api.PlantMachine) { m.Up = 0 }},
		{"too many hours to run at least", func(m *api.PlantMachine) { m.Up = api.PlantTimes + 1 }},
		{"no hours to stand at least", func(m *api.PlantMachine) { m.Down = 0 }},
		{"fewer hours to stand than any", func(m *api.PlantMachine) { m.Down = math.MinInt }},
		{"too many hours to stand at least", func(m *api.PlantMachine) { m.Down = api.PlantTimes + 1 }},
		{"less than nothing left", func(m *api.PlantMachine) { m.Left = -1 }},
		{"too much left", func(m *api.PlantMachine) { m.Left = api.PlantTimes + 1 }},
		{"a life less than 0", func(m *api.PlantMachine) { m.Life = -1 }},
		{"too long a life", func(m *api.PlantMachine) { m.Life = api.PlantTimes + 1 }},
		{"no hours of service", func(m *api.PlantMachine) { m.Service = 0 }},
		{"too many hours of service", func(m *api.PlantMachine) { m.Service = math.MaxInt }},
		{"since less than 0", func(m *api.PlantMachine) { m.Since = -1 }},
		{"since too many hours", func(m *api.PlantMachine) { m.Since = api.PlantTimes + 1 }},
	}
}

// badPlants returns plants that are not as defined.
func badPlants() map[string][]api.PlantMachine {
	l := map[string][]api.PlantMachine{
		"no machines":       nil,
		"an empty plant":    {},
		"too many machines": slices.Repeat(plantOf(machineM()), api.PlantMachines+1),
	}
	for _, b := range badMachines() {
		l[b.name] = plantOf(machineN(), with(machineM(), b.change))
	}
	return l
}

// badRatios returns spans that are not ones of ratios.
func badRatios() []api.Span {
	return []api.Span{{}, span(999, 2000), span(2000, 1999), span(1000, api.PlantRatio+1), span(math.MinInt, math.MaxInt), span(-2000, -1000), exactly(api.PlantRatio + 1)}
}

// equal reports whether two results are the same, a nil list being an empty one.
func equal(a, b any) bool {
	x, y := reflect.ValueOf(a), reflect.ValueOf(b)
	if x.Kind() == reflect.Slice && x.Len() == 0 && y.Len() == 0 {
		return true
	}
	return reflect.DeepEqual(a, b)
}
