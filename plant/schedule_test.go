package plant_test

import (
	"math"
	"math/rand"
	"slices"
	"testing"

	"saltdome/api"
	"saltdome/plant"
)

// P5.4: the example of the chapter, and the same with other schedules.
func TestExampleFault(t *testing.T) {
	for i, x := range []struct {
		schedule [][]api.PlantState
		want     api.PlantFault
	}{
		{scheduleOf("-r", "rr", "-r"), api.PlantFault{Hour: 2, Rule: api.PlantUp, Of: 0}},
		{scheduleOf("-r", "rr", "rr"), api.PlantFault{Rule: api.PlantFine}},
		{scheduleOf("-r", "r-", "r-"), api.PlantFault{Rule: api.PlantFine}},
		{scheduleOf("-r", "-r", "-r"), api.PlantFault{Hour: 1, Rule: api.PlantShort, Of: 1}},
		{scheduleOf("-r", "rs", "r-"), api.PlantFault{Hour: 2, Rule: api.PlantCut, Of: 1}},
		{scheduleOf("-r", "rs", "rs"), api.PlantFault{Rule: api.PlantFine}},
	} {
		if f, e := plant.Fault(example(), exampleHours(), x.schedule); e != api.OK || f != x.want {
			t.Error(i, f, e)
		}
	}
}

// bound returns a machine with some rules.
func bound(up, down, left, life, service int) api.PlantMachine {
	return with(free(10), func(m *api.PlantMachine) { m.Up, m.Down, m.Left, m.Life, m.Service = up, down, left, life, service })
}

// since returns a machine that has run, or stood, at first.
func since(m api.PlantMachine, runs bool, hours int) api.PlantMachine {
	m.Runs, m.Since = runs, hours
	return m
}

// P5.4: each rule, if there is no flow.
func TestFault(t *testing.T) {
	fine := api.PlantFault{Rule: api.PlantFine}
	fault := func(hour int, rule api.PlantRule, of int) api.PlantFault {
		return api.PlantFault{Hour: hour, Rule: rule, Of: of}
	}
	up, down := bound(3, 1, 9, 9, 1), bound(1, 3, 9, 9, 1)
	worn := bound(1, 1, 2, 1, 2)
	three := plantOf(free(10), free(10), free(10))
	for name, x := range map[string]struct {
		l     []api.PlantMachine
		hours []string
		want  api.PlantFault
	}{
		"no hours":                                   {plantOf(up), nil, fine},
		"as long as it has to run":                   {plantOf(since(up, false, 0)), []string{"-", "r", "r", "r", "-"}, fine},
		"not as long as it has to run":               {plantOf(since(up, false, 9)), []string{"-", "r", "r", "-"}, fault(3, api.PlantUp, 0)},
		"it ran for long enough at first":            {plantOf(since(up, true, 3)), []string{"-"}, fine},
		"it ran for too short a time at first":       {plantOf(since(up, true, 2)), []string{"-"}, fault(0, api.PlantUp, 0)},
		"at first and later for long enough":         {plantOf(since(up, true, 1)), []string{"r", "r", "-"}, fine},
		"at first and later for too short a time":    {plantOf(since(up, true, 1)), []string{"r", "-"}, fault(1, api.PlantUp, 0)},
		"at first is not for later":                  {plantOf(since(up, true, 9)), []string{"-", "r", "r", "-"}, fault(3, api.PlantUp, 0)},
		"a service ends a run, too":                  {plantOf(since(up, true, 2)), []string{"s"}, fault(0, api.PlantUp, 0)},
		"a run that lasts to the end":                {plantOf(since(up, false, 9)), []string{"-", "r"}, fine},
		"as long as it has to stand":                 {plantOf(since(down, true, 9)), []string{"-", "-", "-", "r"}, fine},
		"not as long as it has to stand":             {plantOf(since(down, true, 9)), []string{"-", "-", "r"}, fault(2, api.PlantDown, 0)},
		"it stood for long enough at first":          {plantOf(since(down, false, 3)), []string{"r"}, fine},
		"it stood for too short a time at first":     {plantOf(since(down, false, 2)), []string{"r"}, fault(0, api.PlantDown, 0)},
		"it stood at first and later":                {plantOf(since(down, false, 1)), []string{"-", "-", "r"}, fine},
		"it stood then for too short a time":         {plantOf(since(down, false, 1)), []string{"-", "r"}, fault(1, api.PlantDown, 0)},
		"hours of service count":                     {plantOf(since(down, true, 9)), []string{"-", "s", "-", "r"}, fine},
		"a service at once counts":                   {plantOf(since(bound(1, 3, 9, 9, 3), true, 9)), []string{"s", "s", "s", "r"}, fine},
		"but not for more":                           {plantOf(since(down, true, 9)), []string{"s", "r"}, fault(1, api.PlantDown, 0)},
		"what is left":                               {plantOf(worn), []string{"r", "r"}, fine},
		"more than what is left":                     {plantOf(worn), []string{"r", "r", "r"}, fault(2, api.PlantWorn, 0)},
		"what is left, with breaks":                  {plantOf(worn), []string{"r", "-", "r", "-", "r"}, fault(4, api.PlantWorn, 0)},
		"hours ahead of the first do not count":      {plantOf(since(worn, true, 9)), []string{"r", "r"}, fine},
		"a life behind a service":                    {plantOf(worn), []string{"r", "r", "s", "s", "r"}, fine},
		"more than a life":                           {plantOf(worn), []string{"r", "r", "s", "s", "r", "-", "r"}, fault(6, api.PlantWorn, 0)},
		"a life is not added":                        {plantOf(worn), []string{"s", "s", "r", "r"}, fault(3, api.PlantWorn, 0)},
		"one life behind the other":                  {plantOf(worn), []string{"s", "s", "r", "s", "s", "r"}, fine},
		"a life of no hours":                         {plantOf(bound(1, 1, 5, 0, 1)), []string{"r", "s", "r"}, fault(2, api.PlantWorn, 0)},
		"nothing left at first":                      {plantOf(bound(1, 1, 0, 9, 1)), []string{"r"}, fault(0, api.PlantWorn, 0)},
		"a service that is cut":                      {plantOf(worn), []string{"s", "-"}, fault(1, api.PlantCut, 0)},
		"a service that is cut for a run":            {plantOf(worn), []string{"s", "r"}, fault(1, api.PlantCut, 0)},
		"a service that is too long":                 {plantOf(worn), []string{"s", "s", "s"}, fault(2, api.PlantCut, 0)},
		"a service that is just long enough":         {plantOf(worn), []string{"s", "s", "-", "s", "s"}, fine},
		"a service that lasts to the end":            {plantOf(worn), []string{"-", "s"}, fine},
		"a service that is longer than all hours":    {plantOf(bound(1, 1, 0, 9, api.PlantTimes)), []string{"s", "s", "s"}, fine},
		"two services, one behind the other":         {three, []string{"s--", "-s-", "--s"}, fine},
		"two services at once":                       {three, []string{"---", "s-s"}, fault(1, api.PlantCrew, 2)},
		"three services at once":                     {three, []string{"sss"}, fault(0, api.PlantCrew, 1)},
		"the hour comes ahead of the rule":           {plantOf(worn, since(up, false, 1)), []string{"rr", "r-"}, fault(1, api.PlantUp, 1)},
		"an earlier hour comes first":                {plantOf(bound(1, 1, 0, 0, 1), since(up, true, 0)), []string{"rr", "--"}, fault(0, api.PlantWorn, 0)},
		"the first machine":                          {plantOf(up, since(up, true, 2), since(up, true, 1)), []string{"---"}, fault(0, api.PlantUp, 1)},
		"to run too briefly comes first":             {plantOf(since(down, false, 0), since(up, true, 0)), []string{"r-"}, fault(0, api.PlantUp, 1)},
		"then to stand too briefly":                  {plantOf(worn, since(down, true, 5)), []string{"s-", "-r"}, fault(1, api.PlantDown, 1)},
		"then a service that is cut":                 {plantOf(free(10), worn, free(10)), []string{"-s-", "s-s"}, fault(1, api.PlantCut, 1)},
		"then the crew":                              {plantOf(bound(1, 1, 0, 0, 1), free(10), free(10)), []string{"rss"}, fault(0, api.PlantCrew, 2)},
		"one that is too long ahead of one cut":      {plantOf(bound(1, 1, 9, 9, 1), worn), []string{"s-", "ss"}, fault(1, api.PlantCut, 0)},
		"two that are serviced, one for too long":    {plantOf(worn, bound(1, 1, 9, 9, 1)), []string{"-s", "ss"}, fault(1, api.PlantCut, 1)},
		"all rules for as long as they can be asked": {plantOf(since(bound(api.PlantTimes, api.PlantTimes, api.PlantTimes, api.PlantTimes, api.PlantTimes), true, api.PlantTimes)), []string{"r", "-"}, fine},
	} {
		if f, e := plant.Fault(x.l, idle(len(x.hours)), scheduleOf(x.hours...)); e != api.OK || f != x.want {
			t.Error(name, f, e)
		}
	}
}

// P5.4: flows that are not carried.
func TestFaultShort(t *testing.T) {
	falling := with(free(0), func(m *api.PlantMachine) {
		m.Rows = []api.PlantRow{row(1100, 0, 9, 1), row(1200, 0, 4, 1), row(1300, 0, 9, 1)}
	})
	kinds := plantOf(ofKind(api.PlantDry, free(10)), ofKind(api.PlantCool, falling), free(20))
	for i, x := range []struct {
		l    []api.PlantMachine
		h    api.PlantHour
		does string
		of   int
	}{
		{plantOf(falling), hour(9, 1000, 1100), "r", 0},
		{plantOf(falling), hour(9, 1000, 1101), "r", 1},
		{plantOf(falling), hour(4, 1000, 1300), "r", 0},
		{plantOf(falling), hour(5, 1000, 1300), "r", 1},
		{plantOf(falling), hour(9, 1200, 1300), "r", 1},
		{plantOf(falling), hour(9, 1201, 1300), "r", 0},
		{plantOf(falling), hour(1, 1300, 1301), "r", 1},
		{plantOf(falling), hour(0, 1000, api.PlantRatio), "-", 0},
		{plantOf(falling), hour(1, 1000, 1000), "-", 1},
		{plantOf(falling), hour(1, 1000, 1000), "s", 1},
		{plantOf(falling, falling), hour(8, 1000, 1300), "rr", 0},
		{plantOf(falling, falling), hour(9, 1000, 1300), "rr", 1},
		{kinds, hour(9, 1000, 1100), "rrr", 0},
		{kinds, hour(9, 1000, 1300), "rrr", 2},
		{kinds, hour(10, 1000, 1000), "rrr", 2},
		{kinds, hour(9, 1000, 1000), "-rr", 3},
		{kinds, hour(9, 1000, 1200), "-rr", 2},
		{kinds, hour(9, 1000, 1300), "---", 1},
		{kinds, hour(21, 1000, 1000), "rrr", 1},
		// the first kind cannot at a greater ratio, and the second one at all
		{plantOf(falling, ofKind(api.PlantCool, free(3))), hour(5, 1000, 1300), "rr", 1},
		{plantOf(ofKind(api.PlantDry, free(3))), hour(4, 1000, 1300), "r", 3},
	} {
		want := api.PlantFault{Hour: 1, Rule: api.PlantShort, Of: x.of}
		if x.of == 0 {
			want = api.PlantFault{Rule: api.PlantFine}
		}
		before := scheduleOf(string(slices.Repeat([]byte("-"), len(x.l))))
		if f, e := plant.Fault(x.l, append(idle(1), x.h), append(before, scheduleOf(x.does)...)); e != api.OK || f != want {
			t.Error(i, f, e)
		}
	}
	// what a machine may not do comes ahead of what all cannot
	if f, e := plant.Fault(plantOf(free(3), bound(1, 1, 0, 0, 1)), hoursOf(hour(50, 1000, 1000)), scheduleOf("rr")); e != api.OK || f != (api.PlantFault{Rule: api.PlantWorn, Of: 1}) {
		t.Error(f, e)
	}
}

// P5.4, P5.5: arguments that are not as defined, and too many hours, which come first.
func TestScheduleErrors(t *testing.T) {
	ask := func(name string, l []api.PlantMachine, hours []api.PlantHour, schedule [][]api.PlantState, want api.Errno) {
		t.Helper()
		if f, e := plant.Fault(l, hours, schedule); e != want || f != (api.PlantFault{}) {
			t.Error(name, f, e)
		}
		if b, n, e := plant.Cost(l, hours, schedule); e != want || b != (api.Span{}) || n != 0 {
			t.Error(name, b, n, e)
		}
	}
	fine := scheduleOf("-r", "rr", "rr")
	ask("too many hours", example(), idle(api.PlantHours+1), slices.Repeat(scheduleOf("-r"), api.PlantHours+1), api.ErrLong)
	ask("too many hours for no plant", nil, idle(api.PlantHours+1), nil, api.ErrLong)
	ask("too long a schedule", example(), idle(api.PlantHours), slices.Repeat(scheduleOf("-r"), api.PlantHours+1), api.ErrArg)
	ask("no schedule", example(), exampleHours(), nil, api.ErrArg)
	ask("an hour too few", example(), exampleHours(), fine[:2], api.ErrArg)
	ask("an hour too many", example(), exampleHours()[:2], fine, api.ErrArg)
	ask("a machine too few", example(), exampleHours(), scheduleOf("-r", "r", "rr"), api.ErrArg)
	ask("a machine too many", example(), exampleHours(), scheduleOf("-r", "rr", "rrr"), api.ErrArg)
	for _, state := range []api.PlantState{-1, 3, math.MinInt, math.MaxInt} {
		ask("a state that there is not", example(), exampleHours(), [][]api.PlantState{{stands, runs}, {runs, state}, {runs, runs}}, api.ErrArg)
	}
	for _, s := range badRatios() {
		ask("ratios", example(), append(exampleHours()[:2], api.PlantHour{Flow: 1, Ratio: s}), fine, api.ErrArg)
	}
	for _, flow := range []int{math.MinInt, -1, api.PlantFlow + 1} {
		ask("a flow", example(), append(exampleHours()[:2], hour(flow, 1000, 1000)), fine, api.ErrArg)
	}
	for name, l := range badPlants() {
		ask(name, l, idle(1), [][]api.PlantState{make([]api.PlantState, len(l))}, api.ErrArg)
		ask(name, l, nil, nil, api.ErrArg)
	}
}

// P5.4, P5.5: any schedules, compared with what the chapter says word by word.
func TestSchedulesAsSaid(t *testing.T) {
	r := rand.New(rand.NewSource(3))
	counts := map[api.PlantRule]int{}
	for range 20000 {
		l := somePlant(r, 1+r.Intn(4), 1+r.Intn(2), 40)
		count := r.Intn(7)
		hours, schedule := someHours(r, count, r.Intn(4), 30), someSchedule(r, l, count)
		want := faultAsSaid(l, hours, schedule)
		counts[want.Rule]++
		if f, e := plant.Fault(l, hours, schedule); e != api.OK || f != want {
			t.Fatal(l, hours, schedule, f, want, e)
		}
		b, starts, e := plant.Cost(l, hours, schedule)
		if want.Rule != api.PlantFine {
			if e != api.ErrRule || b != (api.Span{}) || starts != 0 {
				t.Fatal(l, hours, schedule, b, starts, e)
			}
			continue
		}
		count, _ = startsAsSaid(l, schedule)
		if e != api.OK || b != costAsSaid(l, hours, schedule) || starts != count {
			t.Fatal(l, hours, schedule, b, starts, e)
		}
	}
	for rule := api.PlantFine; rule <= api.PlantShort; rule++ {
		if counts[rule] < 100 {
			t.Error("too few schedules with that fault", counts)
		}
	}
}

// P0.5, P5.4, P5.5: in a schedule without faults all flows are carried, no machine runs for too long, and the energy lies within the bounds, whatever ratios are true; P5.7: its first hours alone have no fault.
func TestFineSchedules(t *testing.T) {
	r := rand.New(rand.NewSource(4))
	fine := 0
	for range 20000 {
		l := somePlant(r, 1+r.Intn(3), 1+r.Intn(2), 40)
		hours := someHours(r, 5, r.Intn(4), 30)
		schedule := someSchedule(r, l, 5)
		b, _, e := plant.Cost(l, hours, schedule)
		if e != api.OK {
			continue
		}
		fine++
		_, energy := startsAsSaid(l, schedule)
		for h, does := range schedule {
			ratio := hours[h].Ratio.Low + r.Intn(hours[h].Ratio.High-hours[h].Ratio.Low+1)
			shares, _, hourly, e := plant.Share(l, runningOf(does), hours[h].Flow, ratio)
			if e != api.OK || !sharesAll(l, shares, hours[h].Flow) {
				t.Fatal(l, hours, schedule, h, shares, e)
			}
			energy += hourly
		}
		if energy < b.Low || energy > b.High {
			t.Fatal(l, hours, schedule, energy, b)
		}
		for i := range l {
			if x := historyOf(l, schedule, i); !wearsInTime(x) {
				t.Fatal(l, hours, schedule, i)
			}
		}
		for h := range schedule {
			if f, e := plant.Fault(l, hours[:h], schedule[:h]); e != api.OK || f != (api.PlantFault{Rule: api.PlantFine}) {
				t.Fatal(l, hours, schedule, h, f, e)
			}
		}
	}
	if fine < 500 {
		t.Error("too few schedules without faults", fine)
	}
}

// sharesAll reports whether the machines of each kind have all of a flow together.
func sharesAll(l []api.PlantMachine, shares []int, flow int) bool {
	sums := map[api.PlantKind]int{}
	for i, m := range l {
		sums[m.Kind] += shares[i]
	}
	for _, sum := range sums {
		if sum != flow {
			return false
		}
	}
	return true
}

// wearsInTime reports whether a machine never runs for more hours than it may between services.
func wearsInTime(x history) bool {
	ran, may, serviced := 0, x.Left, 0
	for _, does := range x.does {
		serviced++
		switch {
		case does == runs:
			ran++
			serviced = 0
		case does == stands:
			serviced = 0
		case serviced == x.Service:
			ran, may = 0, x.Life
		}
		if ran > may {
			return false
		}
	}
	return true
}

// P5.5: the example of the chapter, and more.
func TestCost(t *testing.T) {
	dear := with(free(0), func(m *api.PlantMachine) {
		m.Rows = []api.PlantRow{row(1100, 2, 9, 5), row(1200, 0, 9, 1), row(1300, 8, 9, 3), row(2000, 0, 9, 4)}
		m.Start = 100
	})
	whole := hour(5, 1000, 2000)
	for name, x := range map[string]struct {
		l        []api.PlantMachine
		hours    []api.PlantHour
		schedule [][]api.PlantState
		bounds   api.Span
		starts   int
	}{
		"the example":                {example(), exampleHours(), scheduleOf("-r", "rr", "rr"), exactly(5350), 1},
		"the example's best":         {example(), exampleHours(), scheduleOf("-r", "r-", "r-"), exactly(5000), 1},
		"no hours":                   {example(), nil, nil, exactly(0), 0},
		"nothing runs":               {plantOf(dear), hoursOf(hour(0, 1000, api.PlantRatio)), scheduleOf("-"), exactly(0), 0},
		"a start":                    {plantOf(dear), hoursOf(whole), scheduleOf("r"), span(105, 125), 1},
		"no start":                   {plantOf(since(dear, true, 0)), hoursOf(whole), scheduleOf("r"), span(5, 25), 0},
		"the least ratio":            {plantOf(since(dear, true, 0)), hoursOf(hour(5, 1100, 1200)), scheduleOf("r"), span(5, 25), 0},
		"just above it":              {plantOf(since(dear, true, 0)), hoursOf(hour(5, 1101, 1200)), scheduleOf("r"), exactly(5), 0},
		"the greatest ratio":         {plantOf(since(dear, true, 0)), hoursOf(hour(5, 1150, 1201)), scheduleOf("r"), span(5, 24), 0},
		"the dearest one in between": {plantOf(since(dear, true, 0)), hoursOf(hour(5, 1150, 2000)), scheduleOf("r"), span(5, 24), 0},
		"no more than at the bounds": {plantOf(since(dear, true, 0)), hoursOf(hour(5, 1301, 1999)), scheduleOf("r"), exactly(20), 0},
		"two hours":                  {plantOf(since(dear, true, 0)), hoursOf(whole, hour(5, 1101, 1201)), scheduleOf("r", "r"), span(10, 49), 0},
		"two starts":                 {plantOf(dear), hoursOf(hour(1, 1200, 1200), hour(0, 1000, 2000), hour(1, 1200, 1200)), scheduleOf("r", "-", "r"), exactly(202), 2},
		"a start behind a service":   {plantOf(since(dear, true, 1)), append(idle(1), hour(1, 1200, 1200)), scheduleOf("s", "r"), exactly(101), 1},
		"what machines take at once": {plantOf(since(dear, true, 0), since(free(9), true, 0)), hoursOf(hour(5, 1000, 1300)), scheduleOf("rr"), span(5, 24), 0},
		"the greatest numbers": {
			slices.Repeat(plantOf(with(compressor(api.PlantFlow, api.PlantFlow, api.PlantEnergy), func(m *api.PlantMachine) { m.Start = api.PlantStart })), api.PlantMachines),
			slices.Repeat(hoursOf(hour(api.PlantFlow, 1000, api.PlantRatio)), api.PlantHours),
			slices.Repeat(scheduleOf("rrrrrr"), api.PlantHours),
			exactly(6*24*api.PlantFlow*api.PlantEnergy + 6*api.PlantStart), 6},
	} {
		if b, starts, e := plant.Cost(x.l, x.hours, x.schedule); e != api.OK || b != x.bounds || starts != x.starts {
			t.Error(name, b, starts, e)
		}
	}
	if b, starts, e := plant.Cost(example(), exampleHours(), scheduleOf("-r", "rr", "-r")); e != api.ErrRule || b != (api.Span{}) || starts != 0 {
		t.Error(b, starts, e)
	}
}
