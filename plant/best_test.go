package plant_test

import (
	"math"
	"math/rand"
	"slices"
	"testing"

	"saltdome/api"
	"saltdome/plant"
)

// steady returns a machine that always takes an energy of its own for a flow of up to 10.
func steady(energy int) api.PlantMachine {
	return with(free(10), func(m *api.PlantMachine) { m.Rows[0].Energy = energy })
}

// starting returns a machine that takes nothing but the energy of its starts.
func starting(energy int) api.PlantMachine {
	return with(steady(0), func(m *api.PlantMachine) { m.Start = energy })
}

// wearing returns a machine with some hours left, and a life and a service of some hours.
func wearing(m api.PlantMachine, left, life, service int) api.PlantMachine {
	m.Left, m.Life, m.Service = left, life, service
	return m
}

// lazy returns a machine that has to run, or to stand, for some hours.
func lazy(m api.PlantMachine, up, down int) api.PlantMachine {
	m.Up, m.Down = up, down
	return m
}

// flows returns hours with these flows, at the least ratio.
func flows(l ...int) []api.PlantHour {
	var hours []api.PlantHour
	for _, flow := range l {
		hours = append(hours, hour(flow, 1000, 1000))
	}
	return hours
}

// P5.6: the example of the chapter, and more.
func TestBest(t *testing.T) {
	// its energy falls with the ratio, and that of the next one rises
	falls := with(free(10), func(m *api.PlantMachine) { m.Rows = []api.PlantRow{row(1500, 0, 10, 10), row(2000, 0, 10, 1)} })
	rises := with(free(10), func(m *api.PlantMachine) { m.Rows = []api.PlantRow{row(1500, 0, 10, 1), row(2000, 0, 10, 10)} })
	for name, x := range map[string]struct {
		l      []api.PlantMachine
		hours  []api.PlantHour
		want   []string
		energy int
	}{
		"the example":                        {example(), exampleHours(), []string{"-r", "r-", "r-"}, 5000},
		"no hours":                           {example(), nil, nil, 0},
		"no flow":                            {plantOf(steady(1), since(steady(1), true, 1)), flows(0, 0), []string{"--", "--"}, 0},
		"no flow, but it has to run":         {plantOf(since(lazy(with(steady(7), func(m *api.PlantMachine) { m.Rows[0].Least = 2 }), 4, 1), true, 2)), flows(0, 0, 0), []string{"r", "r", "-"}, 28},
		"the one with less energy":           {plantOf(steady(5), steady(4), steady(6)), flows(10, 10), []string{"-r-", "-r-"}, 80},
		"two for more than one can":          {plantOf(steady(5), steady(4), steady(6)), flows(11), []string{"rr-"}, 45},
		"the last of those that are alike":   {plantOf(steady(5), steady(5), steady(5)), flows(10), []string{"--r"}, 50},
		"the one that runs":                  {plantOf(since(steady(5), true, 1), steady(5)), flows(10), []string{"r-"}, 50},
		"a start for less energy":            {plantOf(since(steady(5), true, 1), with(steady(1), func(m *api.PlantMachine) { m.Start = 39 })), flows(10), []string{"-r"}, 49},
		"no start for as much energy":        {plantOf(since(steady(5), true, 1), with(steady(1), func(m *api.PlantMachine) { m.Start = 40 })), flows(10), []string{"r-"}, 50},
		"no start for less energy in all":    {plantOf(since(steady(5), true, 1), with(steady(1), func(m *api.PlantMachine) { m.Start = 41 })), flows(10), []string{"r-"}, 50},
		"to run for fewer starts":            {plantOf(steady(0)), flows(10, 0, 10), []string{"r", "r", "r"}, 0},
		"to run for less energy":             {plantOf(starting(3)), flows(10, 0, 0, 10), []string{"r", "r", "r", "r"}, 3},
		"to start for less energy":           {plantOf(with(starting(3), func(m *api.PlantMachine) { m.Rows[0] = row(1000, 1, 10, 2) })), flows(1, 0, 0, 1), []string{"r", "-", "-", "r"}, 10},
		"to run on, and take as much":        {plantOf(with(starting(4), func(m *api.PlantMachine) { m.Rows[0] = row(1000, 1, 10, 2) })), flows(1, 0, 0, 1), []string{"r", "r", "r", "r"}, 12},
		"a service in time":                  {plantOf(wearing(steady(1), 1, 1, 1)), flows(10, 0, 10), []string{"r", "s", "r"}, 20},
		"a service of two hours":             {plantOf(wearing(steady(1), 1, 1, 2)), flows(10, 0, 0, 10), []string{"r", "s", "s", "r"}, 20},
		"a service as late as it can be":     {plantOf(wearing(steady(1), 1, 1, 2)), flows(10, 0, 0, 0, 10), []string{"r", "-", "s", "s", "r"}, 20},
		"no service that is of no use":       {plantOf(wearing(steady(1), 1, 9, 1)), flows(10, 0, 0), []string{"r", "-", "-"}, 10},
		"no service for a shorter life":      {plantOf(wearing(steady(1), 2, 1, 1)), flows(0, 10, 0, 10), []string{"-", "r", "-", "r"}, 20},
		"one crew for two machines":          {plantOf(wearing(steady(1), 0, 9, 2), wearing(steady(1), 0, 9, 2)), flows(0, 0, 0, 0, 20), []string{"-s", "-s", "s-", "s-", "rr"}, 20},
		"one crew, and one that must wait":   {plantOf(wearing(steady(1), 0, 9, 1), wearing(steady(2), 0, 9, 2)), flows(0, 0, 10, 11), []string{"s-", "-s", "rs", "rr"}, 10 + 10 + 2},
		"it has to stand, so another runs":   {plantOf(lazy(steady(1), 1, 3), steady(9)), flows(10), []string{"-r"}, 90},
		"it stood for long enough":           {plantOf(since(lazy(steady(1), 1, 3), false, 3), steady(9)), flows(10), []string{"r-"}, 10},
		"it has to run for two hours":        {plantOf(lazy(steady(1), 2, 1), with(steady(5), func(m *api.PlantMachine) { m.Start = 1 })), flows(10, 0), []string{"r-", "r-"}, 10},
		"no start that has to last too long": {plantOf(lazy(with(steady(1), func(m *api.PlantMachine) { m.Rows[0].Least = 10 }), 9, 1), steady(5)), flows(10, 0, 0, 0, 0), []string{"-r", "--", "--", "--", "--"}, 50},
		"what is worst at one ratio":         {plantOf(steady(6), falls, ofKind(api.PlantCool, rises)), hoursOf(hour(10, 1500, 1501)), []string{"-rr"}, 110},
		"at each ratio alone":                {plantOf(steady(6), falls, ofKind(api.PlantCool, rises)), hoursOf(hour(10, 1500, 1500), hour(10, 1501, 1501)), []string{"r-r", "-rr"}, 70 + 110},
		"it must carry at all ratios":        {plantOf(with(steady(1), func(m *api.PlantMachine) { m.Rows[0].Ratio = 1100 }), steady(9)), hoursOf(hour(10, 1000, 1100), hour(10, 1000, 1101)), []string{"r-", "-r"}, 100},
		"a machine of each kind":             {plantOf(ofKind(api.PlantDry, steady(3)), steady(2), ofKind(api.PlantCool, steady(1))), flows(10, 0), []string{"rrr", "---"}, 60},
	} {
		schedule, energy, e := plant.Best(x.l, x.hours)
		if e != api.OK || !equal(schedule, scheduleOf(x.want...)) || energy != x.energy {
			t.Error(name, schedule, energy, e)
		}
	}
}

// P5.6: plants with which each schedule has a fault.
func TestBestNone(t *testing.T) {
	for name, x := range map[string]struct {
		l     []api.PlantMachine
		hours []api.PlantHour
	}{
		"too great a flow":                   {plantOf(steady(1), steady(1)), flows(10, 21, 10)},
		"too great a flow at some ratio":     {plantOf(with(steady(1), func(m *api.PlantMachine) { m.Rows[0].Ratio = 1100 })), hoursOf(hour(1, 1000, 1101))},
		"too great a flow for one kind":      {plantOf(steady(1), steady(1), ofKind(api.PlantDry, steady(1))), flows(11)},
		"nothing is left":                    {plantOf(wearing(steady(1), 0, 9, 1)), flows(10)},
		"not enough is left":                 {plantOf(wearing(steady(1), 2, 9, 1)), flows(10, 10, 10)},
		"too long a service":                 {plantOf(wearing(steady(1), 1, 9, 2)), flows(10, 0, 10)},
		"too short a life":                   {plantOf(wearing(steady(1), 1, 1, 1)), flows(10, 0, 10, 10)},
		"one crew for two services":          {plantOf(wearing(steady(1), 0, 9, 2), wearing(steady(1), 0, 9, 2)), flows(0, 0, 0, 20)},
		"one crew for three machines":        {slices.Repeat(plantOf(wearing(steady(1), 1, 9, 1)), 3), flows(30, 0, 0, 30)},
		"it has to run, and cannot":          {plantOf(since(wearing(lazy(steady(1), 3, 1), 1, 9, 1), true, 1)), flows(0, 0)},
		"it has to stand":                    {plantOf(lazy(steady(1), 1, 2)), flows(10)},
		"it has to stand until it can start": {plantOf(since(lazy(steady(1), 1, 4), false, 1)), flows(0, 0, 10)},
		"fewer hours left than all need":     {slices.Repeat(plantOf(wearing(steady(1), 11, 0, 1)), api.PlantMachines), slices.Repeat(flows(30), api.PlantHours)},
		// The first one can run in half of the hours that are there, and the second one in as many, but not in the others.
		"hours that do not fit":               {plantOf(since(wearing(lazy(steady(1), 2, 2), 2, 0, 1), true, 2), wearing(steady(1), 1, 1, 1)), flows(10, 10, 10, 10, 0)},
		"services that take too long for all": {slices.Repeat(plantOf(wearing(lazy(steady(1), 2, 2), 4, 4, 3)), api.PlantMachines), slices.Repeat(flows(40), api.PlantHours)},
	} {
		if schedule, energy, e := plant.Best(x.l, x.hours); e != api.ErrNone || len(schedule) != 0 || energy != 0 {
			t.Error(name, schedule, energy, e)
		}
	}
}

// P5.6: arguments that are not as defined, and too many hours, which come first.
func TestBestErrors(t *testing.T) {
	ask := func(name string, l []api.PlantMachine, hours []api.PlantHour, want api.Errno) {
		t.Helper()
		if schedule, energy, e := plant.Best(l, hours); e != want || len(schedule) != 0 || energy != 0 {
			t.Error(name, schedule, energy, e)
		}
	}
	if schedule, energy, e := plant.Best(example(), idle(api.PlantHours)); e != api.OK || len(schedule) != api.PlantHours || energy != 0 {
		t.Error("as many hours as there can be", schedule, energy, e)
	}
	ask("too many hours", example(), idle(api.PlantHours+1), api.ErrLong)
	ask("too many hours for no plant", nil, make([]api.PlantHour, api.PlantHours+1), api.ErrLong)
	for _, s := range badRatios() {
		ask("ratios", example(), append(exampleHours()[:2], api.PlantHour{Flow: 1, Ratio: s}), api.ErrArg)
	}
	for _, flow := range []int{math.MinInt, -1, api.PlantFlow + 1} {
		ask("a flow", example(), append(exampleHours()[:2], hour(flow, 1000, 1000)), api.ErrArg)
	}
	for name, l := range badPlants() {
		ask(name, l, idle(1), api.ErrArg)
		ask(name, l, nil, api.ErrArg)
	}
}

// answer is a schedule, with its greatest energy and its starts.
type answer struct {
	schedule       [][]api.PlantState
	energy, starts int
}

// better reports whether an answer comes ahead of another one, as the chapter says.
func (a answer) better(b answer) bool {
	if a.energy != b.energy {
		return a.energy < b.energy
	}
	if a.starts != b.starts {
		return a.starts < b.starts
	}
	return slices.CompareFunc(a.schedule, b.schedule, slices.Compare[[]api.PlantState]) < 0
}

// memory is what a machine of a schedule has done.
type memory struct {
	doing                api.PlantState
	lasted, left, served int
}

// next returns what a machine has done an hour later, and whether that breaks no rule.
func (x memory) next(m api.PlantMachine, does api.PlantState) (memory, bool) {
	n := memory{does, 1, x.left, 0}
	ran, run := x.doing == runs, does == runs
	if ran == run {
		n.lasted = min(x.lasted+1, max(m.Up, m.Down))
	}
	if run {
		n.left--
	}
	if does == served {
		n.served = x.served + 1
	}
	if n.served == m.Service {
		n.left = m.Life
	}
	early := ran && !run && x.lasted < m.Up || run && !ran && x.lasted < m.Down
	cut := does != served && x.served > 0 && x.served < m.Service || does == served && x.served >= m.Service
	return n, !early && !cut && n.left >= 0
}

// memories are those of all machines.
type memories [api.PlantMachines]memory

// bestByMemories returns the best schedule in which machines do nothing but what they may: hour by hour, the best one is kept of those that leave the same memories behind.
func bestByMemories(l []api.PlantMachine, hours []api.PlantHour, may ...api.PlantState) (answer, bool) {
	var first memories
	for i, m := range l {
		first[i] = memory{doing: map[bool]api.PlantState{true: runs, false: stands}[m.Runs], lasted: m.Since, left: m.Left}
	}
	layer := map[memories]answer{first: {}}
	for i, h := range hours {
		energies := map[[api.PlantMachines]bool]int{}
		next := map[memories]answer{}
		for x, a := range layer {
			follow(l, x, may, func(does []api.PlantState, y memories, starts, energy int) {
				key := [api.PlantMachines]bool{}
				copy(key[:], runningOf(does))
				hourly, ok := energies[key]
				if !ok {
					hourly = -1
					if shortInHour(l, does, h) == 0 {
						hourly = hourAsSaid(l, does, h).High
					}
					energies[key] = hourly
				}
				// more than there are hours to come is as good as that
				for k := range l {
					y[k].left = min(y[k].left, len(hours)-i-1)
				}
				b := answer{nil, a.energy + energy + hourly, a.starts + starts}
				old, ok := next[y]
				if hourly < 0 || ok && (old.energy < b.energy || old.energy == b.energy && old.starts < b.starts) {
					return
				}
				b.schedule = append(slices.Clone(a.schedule), slices.Clone(does))
				if !ok || b.better(old) {
					next[y] = b
				}
			})
		}
		layer = next
	}
	var best answer
	found := false
	for _, a := range layer {
		if !found || a.better(best) {
			best, found = a, true
		}
	}
	return best, found
}

// follow calls for all that machines can do in an hour, with what they have done then, how many start, and the energy of that.
func follow(l []api.PlantMachine, x memories, may []api.PlantState, yield func([]api.PlantState, memories, int, int)) {
	does := make([]api.PlantState, len(l))
	var choose func(i int, y memories, crew, starts, energy int)
	choose = func(i int, y memories, crew, starts, energy int) {
		if i == len(l) {
			yield(does, y, starts, energy)
			return
		}
		for _, s := range may {
			n, ok := x[i].next(l[i], s)
			if !ok || s == served && crew > 0 {
				continue
			}
			does[i], y[i] = s, n
			switch {
			case s == served:
				choose(i+1, y, crew+1, starts, energy)
			case s == runs && x[i].doing != runs:
				choose(i+1, y, crew, starts+1, energy+l[i].Start)
			default:
				choose(i+1, y, crew, starts, energy)
			}
		}
	}
	choose(0, memories{}, 0, 0, 0)
}

// askBest compares the best schedule with a wanted one, and reports whether there is one.
func askBest(t *testing.T, l []api.PlantMachine, hours []api.PlantHour, want answer, found bool) bool {
	t.Helper()
	schedule, energy, e := plant.Best(l, hours)
	if !found {
		if e != api.ErrNone || len(schedule) != 0 || energy != 0 {
			t.Fatal(l, hours, schedule, energy, e)
		}
		return false
	}
	if e != api.OK || !equal(schedule, want.schedule) || energy != want.energy {
		t.Fatal(l, hours, schedule, energy, e, want)
	}
	b, starts, e := plant.Cost(l, hours, schedule)
	if e != api.OK || b.High != energy || starts != want.starts {
		t.Fatal(l, hours, schedule, energy, b, starts, e)
	}
	return true
}

// bestOfAll returns the best schedule of all that there are, one after the other in lexicographic order.
func bestOfAll(l []api.PlantMachine, hours []api.PlantHour) (answer, bool) {
	var best answer
	found := false
	schedule := make([][]api.PlantState, len(hours))
	var fill func(h, i int)
	fill = func(h, i int) {
		switch {
		case h == len(hours):
			if faultAsSaid(l, hours, schedule).Rule != api.PlantFine {
				return
			}
			starts, _ := startsAsSaid(l, schedule)
			a := answer{schedule, costAsSaid(l, hours, schedule).High, starts}
			if !found || a.energy < best.energy || a.energy == best.energy && a.starts < best.starts {
				best, found = answer{nil, a.energy, a.starts}, true
				for _, does := range schedule {
					best.schedule = append(best.schedule, slices.Clone(does))
				}
			}
		case i == len(l):
			fill(h+1, 0)
		default:
			if i == 0 {
				schedule[h] = make([]api.PlantState, len(l))
			}
			for _, s := range []api.PlantState{stands, runs, served} {
				schedule[h][i] = s
				fill(h, i+1)
			}
		}
	}
	fill(0, 0)
	return best, found
}

// P5.6: the best one of all schedules of small plants.
func TestBestOfAll(t *testing.T) {
	r := rand.New(rand.NewSource(5))
	found := 0
	for range 400 {
		machines := 1 + r.Intn(2)
		l := somePlant(r, machines, 2, 6)
		hours := someHours(r, r.Intn(8-2*machines), r.Intn(6), 5)
		want, ok := bestOfAll(l, hours)
		if askBest(t, l, hours, want, ok) {
			found++
		}
	}
	if found < 100 {
		t.Error("too few plants with schedules", found)
	}
}

// almost returns a machine that is alike, but for what it did at first, and sometimes for one number more.
func almost(r *rand.Rand, m api.PlantMachine) api.PlantMachine {
	return with(m, func(m *api.PlantMachine) {
		m.Left, m.Runs, m.Since = r.Intn(6), r.Intn(2) == 0, r.Intn(4)
		switch r.Intn(14) {
		case 0, 7, 8, 9:
			m.Kind = api.PlantKind(1 + r.Intn(2))
		case 1:
			m.Rows[0].Energy++
		case 2:
			m.Start++
		case 3:
			m.Up++
		case 4:
			m.Down++
		case 5:
			m.Life++
		case 6:
			m.Service++
		}
	})
}

// P5.6: plants of some machines for some hours.
func TestBestByMemories(t *testing.T) {
	r := rand.New(rand.NewSource(6))
	found := map[int]int{}
	for range 1500 {
		machines := 2 + r.Intn(3)
		l := somePlant(r, machines, 1+r.Intn(2), 6)
		if r.Intn(2) == 0 {
			for i := range l {
				l[i] = almost(r, l[0])
			}
		}
		hours := someHours(r, 10-machines, r.Intn(12), 5)
		want, ok := bestByMemories(l, hours, stands, runs, served)
		if askBest(t, l, hours, want, ok) {
			found[machines]++
		}
	}
	for machines := 2; machines <= 4; machines++ {
		if found[machines] < 20 {
			t.Error("too few plants with schedules", found)
		}
	}
}

// tied returns a plant in which many schedules take the same energy.
func tied(r *rand.Rand, machines int) []api.PlantMachine {
	l := somePlant(r, machines, 1+r.Intn(2), 6)
	for i := range l {
		m := &l[i]
		m.Start, m.Left, m.Life = r.Intn(2)*r.Intn(2), m.Left+r.Intn(3), m.Life+r.Intn(3)
		for k := range m.Rows {
			m.Rows[k].Most += 3
			m.Rows[k].Energy = r.Intn(2)
		}
	}
	return l
}

// P5.6: of several schedules the one with the fewest starts, and then the first one.
func TestBestOfTies(t *testing.T) {
	r := rand.New(rand.NewSource(12))
	found := 0
	for range 2000 {
		l := tied(r, 3)
		hours := someHours(r, 5+r.Intn(4), 12, 5)
		want, ok := bestByMemories(l, hours, stands, runs, served)
		if askBest(t, l, hours, want, ok) {
			found++
		}
	}
	if found < 100 {
		t.Error("too few plants with schedules", found)
	}
}

// P5.6: as many machines and hours as there can be. With so much left no service is of any use.
func TestBestOfDay(t *testing.T) {
	r := rand.New(rand.NewSource(7))
	found := 0
	for range 6 {
		var l []api.PlantMachine
		for range api.PlantMachines {
			m := since(lazy(someMachine(r, 1, 6), 1+r.Intn(3), 1+r.Intn(2)), r.Intn(2) == 0, 2)
			l = append(l, wearing(m, api.PlantHours, api.PlantHours, 1))
		}
		hours := someHours(r, api.PlantHours, 12, 5)
		want, ok := bestByMemories(l, hours, stands, runs)
		if askBest(t, l, hours, want, ok) {
			found++
		}
	}
	if found < 2 {
		t.Error("too few plants with schedules", found)
	}
}

// P5.6: machines that are alike, and must all be worn out: each one starts once, the last ones first.
func TestBestOfAlike(t *testing.T) {
	m := with(steady(1), func(m *api.PlantMachine) { m.Start = 5 })
	for name, x := range map[string]struct {
		m     api.PlantMachine
		hours []api.PlantHour
		want  [][]api.PlantState
		cost  int
	}{
		"three of six": {
			wearing(m, 12, 0, 1), slices.Repeat(flows(30), 24),
			append(slices.Repeat(scheduleOf("---rrr"), 12), slices.Repeat(scheduleOf("rrr---"), 12)...), 24*30 + 6*5},
		"two of six": {
			wearing(m, 8, 0, 1), slices.Repeat(flows(20), 24),
			slices.Concat(slices.Repeat(scheduleOf("----rr"), 8), slices.Repeat(scheduleOf("--rr--"), 8), slices.Repeat(scheduleOf("rr----"), 8)), 24*20 + 6*5},
		"one of six": {
			wearing(m, 4, 0, 1), slices.Repeat(flows(10), 24),
			slices.Concat(slices.Repeat(scheduleOf("-----r"), 4), slices.Repeat(scheduleOf("----r-"), 4), slices.Repeat(scheduleOf("---r--"), 4), slices.Repeat(scheduleOf("--r---"), 4), slices.Repeat(scheduleOf("-r----"), 4), slices.Repeat(scheduleOf("r-----"), 4)), 24*10 + 6*5},
		"any of six": {
			wearing(m, 24, 0, 1), slices.Repeat(flows(10), 24),
			slices.Repeat(scheduleOf("-----r"), 24), 24*10 + 5},
	} {
		schedule, energy, e := plant.Best(slices.Repeat(plantOf(x.m), 6), x.hours)
		if e != api.OK || !equal(schedule, x.want) || energy != x.cost {
			t.Error(name, schedule, energy, e)
		}
	}
}

// greatPlant returns a plant of as many machines as there can be, bound by all rules.
func greatPlant(r *rand.Rand, kinds int) []api.PlantMachine {
	var l []api.PlantMachine
	for range api.PlantMachines {
		m := with(free(0), func(m *api.PlantMachine) { m.Rows = nil })
		m.Kind, m.Start = api.PlantKind(1+r.Intn(kinds)), r.Intn(3000)
		for i := range 1 + r.Intn(4) {
			most := 100 + r.Intn(300)
			m.Rows = append(m.Rows, row(1500+500*i, r.Intn(most/2), most, 1+r.Intn(10)))
		}
		m.Rows[len(m.Rows)-1].Ratio = api.PlantRatio
		m = wearing(lazy(since(m, r.Intn(2) == 0, r.Intn(4)), 1+r.Intn(5), 1+r.Intn(5)), 4+r.Intn(16), 6+r.Intn(10), 1+r.Intn(3))
		l = append(l, m)
	}
	return l
}

// greatHours returns as many hours as there can be.
func greatHours(r *rand.Rand, flow int) []api.PlantHour {
	var l []api.PlantHour
	for range api.PlantHours {
		low := 1000 + r.Intn(2000)
		l = append(l, hour(flow/2+r.Intn(flow), low, low+r.Intn(500)))
	}
	return l
}

// P0.5, P5.6: whatever one machine does otherwise in one hour, it does not take less; nor do the first hours alone take more (P5.7).
func TestBestOfGreatPlants(t *testing.T) {
	r := rand.New(rand.NewSource(8))
	found, others := 0, 0
	for range 30 {
		kinds := 1 + r.Intn(3)
		l, hours := greatPlant(r, kinds), greatHours(r, 50+r.Intn(300/kinds))
		schedule, energy, e := plant.Best(l, hours)
		if e == api.ErrNone {
			continue
		}
		found++
		b, starts, e := plant.Cost(l, hours, schedule)
		if e != api.OK || b.High != energy {
			t.Fatal(l, hours, schedule, energy, b, e)
		}
		best := answer{schedule, energy, starts}
		for h, does := range schedule {
			for i := range does {
				for s := stands; s <= served; s++ {
					other := slices.Clone(schedule)
					other[h] = slices.Clone(does)
					other[h][i] = s
					b, starts, e := plant.Cost(l, hours, other)
					if e != api.OK {
						continue
					}
					others++
					if (answer{other, b.High, starts}).better(best) {
						t.Fatal(l, hours, best, other, b, starts)
					}
				}
			}
		}
		k := r.Intn(len(hours))
		b, _, _ = plant.Cost(l, hours[:k], schedule[:k])
		if _, first, e := plant.Best(l, hours[:k]); e != api.OK || first > b.High {
			t.Fatal(l, hours, k, first, b, e)
		}
	}
	if found < 10 || others < 2000 {
		t.Error("too few plants with schedules", found, others)
	}
}

// narrower returns hours of which one has less flow, and one a ratio that is known better.
func narrower(r *rand.Rand, hours []api.PlantHour) []api.PlantHour {
	hours = slices.Clone(hours)
	x := &hours[r.Intn(len(hours))]
	x.Flow = r.Intn(x.Flow + 1)
	x = &hours[r.Intn(len(hours))]
	x.Ratio.Low += r.Intn(x.Ratio.High - x.Ratio.Low + 1)
	x.Ratio.High -= r.Intn(x.Ratio.High - x.Ratio.Low + 1)
	return hours
}

// P5.7: a ratio that is known better, and less flow, never make the best schedule dearer.
func TestBestConsequences(t *testing.T) {
	r := rand.New(rand.NewSource(9))
	cheaper, same := 0, 0
	for range 600 {
		l, hours := somePlant(r, 1+r.Intn(4), 2, 30), someHours(r, 1+r.Intn(6), 8, 30)
		if r.Intn(20) == 0 {
			l, hours = greatPlant(r, 2), greatHours(r, 60)
		}
		_, energy, e := plant.Best(l, hours)
		if e != api.OK {
			continue
		}
		better := narrower(r, hours)
		switch _, less, e := plant.Best(l, better); {
		case e != api.OK || less > energy:
			t.Fatal(l, hours, better, energy, less, e)
		case less < energy:
			cheaper++
		default:
			same++
		}
	}
	if cheaper < 30 || same < 30 {
		t.Error("too few plants with schedules", cheaper, same)
	}
}

// P5.7: a schedule without faults has none in its first hours alone, so that these have a best one, too.
func TestFirstHours(t *testing.T) {
	r := rand.New(rand.NewSource(10))
	found := 0
	for range 2000 {
		l, hours := somePlant(r, 1+r.Intn(4), 2, 30), someHours(r, 6, 3, 30)
		schedule, _, e := plant.Best(l, hours)
		if e != api.OK {
			continue
		}
		found++
		for k := range hours {
			if f, e := plant.Fault(l, hours[:k], schedule[:k]); e != api.OK || f != (api.PlantFault{Rule: api.PlantFine}) {
				t.Fatal(l, hours, schedule, k, f, e)
			}
			b, _, _ := plant.Cost(l, hours[:k], schedule[:k])
			if _, energy, e := plant.Best(l, hours[:k]); e != api.OK || energy > b.High {
				t.Fatal(l, hours, k, energy, b, e)
			}
		}
	}
	if found < 50 {
		t.Error("too few plants with schedules", found)
	}
}
