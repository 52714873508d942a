package creep_test

import (
	"math/rand"
	"testing"

	"saltdome/api"
	"saltdome/creep"
)

func noFault() api.CreepFault { return api.CreepFault{Rule: api.CreepFine} }

// faultsOf returns the faults of days that are as defined.
func faultsOf(t *testing.T, s api.CreepSite, days ...api.CreepDay) (api.CreepFault, api.CreepFault) {
	t.Helper()
	possible, certain, e := creep.Faults(s, days)
	if e != api.OK {
		t.Fatal(s, days, e)
	}
	return possible, certain
}

// P2.4
func TestFaultsOfExamples(t *testing.T) {
	s, d := example(), exampleDay()
	if x, y := faultsOf(t, s, d); x != (api.CreepFault{Day: 0, Rule: api.CreepSunk, Of: 0}) || y != noFault() {
		t.Error(x, y)
	}
	s.Houses = nil
	if x, y := faultsOf(t, s, d, d, d); x != (api.CreepFault{Day: 1, Rule: api.CreepThin, Of: 0, With: 1}) || y != noFault() {
		t.Error(x, y)
	}
	if x, y := faultsOf(t, s, d); x != noFault() || y != noFault() {
		t.Error(x, y)
	}
	// what is wrong at first is no fault of a day
	s.Wall, s.Caverns[0].Floor = api.CreepWall, api.CreepVolume
	if x, y := faultsOf(t, s); x != noFault() || y != noFault() {
		t.Error(x, y)
	}
}

// calm returns a site of three caverns in a row in which nothing is wrong on a calm day; without volumes that are lost and walls that fall but for deficits of more than 9000.
func calm() api.CreepSite {
	s := api.CreepSite{
		Rows:  []api.CreepRow{{Deficit: 0}, {Deficit: 9000}, {Deficit: 10000, Rate: span(0, 1000), Spall: span(0, 20)}, {Deficit: 12000, Rate: span(1000, 1000), Spall: span(20, 20)}},
		Heats: []api.CreepHeat{{Warmth: 3000, Factor: span(1000, 1000)}, {Warmth: 3100, Factor: span(1000, 2000)}},
		Wall:  1000,
		Rings: []api.CreepRing{{Away: 10, Share: span(1000000, 1000000)}},
	}
	for i := range 3 {
		s.Caverns = append(s.Caverns, api.CreepCavern{X: 100 * i, Radius: span(30000, 30000), Volume: span(100000, 100000), Rock: 20000, Gate: span(0, 20000), Change: 4000})
	}
	s.Houses = []api.CreepHouse{{X: 50, Most: 0}, {X: 103, Y: 4, Most: 1000}, {X: 200, Most: 1000}}
	return s
}

func calmDay() api.CreepDay {
	return day(exactly(3000), exactly(12000), exactly(12000), exactly(12000))
}

// pressed returns a calm day with another pressure in one cavern.
func pressed(i int, p api.Span) api.CreepDay {
	d := calmDay()
	d.Pressures[i] = p
	return d
}

type faultCase struct {
	change            func(*api.CreepSite)
	days              []api.CreepDay
	possible, certain api.CreepFault
}

func asIs(*api.CreepSite) {}

func compareFaults(t *testing.T, l map[string]faultCase) {
	t.Helper()
	for name, x := range l {
		s := calm()
		x.change(&s)
		if possible, certain := faultsOf(t, s, x.days...); possible != x.possible || certain != x.certain {
			t.Error(name, possible, certain)
		}
	}
}

func fault(day int, rule api.CreepRule, of, with int) api.CreepFault {
	return api.CreepFault{Day: day, Rule: rule, Of: of, With: with}
}

// P2.4: what is beyond a table, outside a gate, or too fast.
func TestFaultsOfPressures(t *testing.T) {
	gate := func(s *api.CreepSite) { s.Caverns[1].Gate = span(11900, 12100) }
	warm := func(w api.Span) api.CreepDay { d := calmDay(); d.Warmths[2] = w; return d }
	compareFaults(t, map[string]faultCase{
		"calm":                      {asIs, []api.CreepDay{calmDay(), calmDay()}, noFault(), noFault()},
		"at the rock's pressure":    {asIs, []api.CreepDay{pressed(0, exactly(20000))}, noFault(), noFault()},
		"above the rock's pressure": {asIs, []api.CreepDay{pressed(0, span(20000, 20001))}, fault(0, api.CreepBeyond, 0, 0), noFault()},
		"below the last deficit":    {asIs, []api.CreepDay{calmDay(), pressed(2, span(7999, 8000))}, fault(1, api.CreepBeyond, 2, 0), noFault()},
		"too cold":                  {asIs, []api.CreepDay{warm(span(2999, 3000))}, fault(0, api.CreepBeyond, 2, 0), noFault()},
		"just cold, just hot":       {asIs, []api.CreepDay{warm(span(3000, 3100))}, noFault(), noFault()},
		"too hot":                   {asIs, []api.CreepDay{warm(span(3100, 3101))}, fault(0, api.CreepBeyond, 2, 0), noFault()},
		"beyond comes ahead of a gate, and certain faults are not looked for": {func(s *api.CreepSite) { s.Caverns[0].Gate = span(0, 0) }, []api.CreepDay{pressed(1, exactly(0))}, fault(0, api.CreepBeyond, 1, 0), noFault()},
		"behind a day beyond, too":               {func(s *api.CreepSite) { s.Caverns[0].Gate = span(5, 20000) }, []api.CreepDay{pressed(1, exactly(0)), pressed(0, exactly(0))}, fault(0, api.CreepBeyond, 1, 0), noFault()},
		"certain ahead of beyond":                {gate, []api.CreepDay{pressed(1, exactly(12101)), pressed(0, exactly(0))}, fault(0, api.CreepGate, 1, 0), fault(0, api.CreepGate, 1, 0)},
		"at the gate":                            {gate, []api.CreepDay{pressed(1, span(11900, 12100))}, noFault(), noFault()},
		"partly below the gate":                  {gate, []api.CreepDay{pressed(1, span(11899, 11900))}, fault(0, api.CreepGate, 1, 0), noFault()},
		"below the gate":                         {gate, []api.CreepDay{pressed(1, span(11890, 11899))}, fault(0, api.CreepGate, 1, 0), fault(0, api.CreepGate, 1, 0)},
		"partly above the gate":                  {gate, []api.CreepDay{pressed(1, span(12100, 12101))}, fault(0, api.CreepGate, 1, 0), noFault()},
		"above the gate":                         {gate, []api.CreepDay{pressed(1, span(12101, 12109))}, fault(0, api.CreepGate, 1, 0), fault(0, api.CreepGate, 1, 0)},
		"around the gate":                        {gate, []api.CreepDay{pressed(1, span(11899, 12101))}, fault(0, api.CreepGate, 1, 0), noFault()},
		"possible, then certain":                 {gate, []api.CreepDay{calmDay(), pressed(1, span(12050, 12101)), pressed(1, exactly(12101))}, fault(1, api.CreepGate, 1, 0), fault(2, api.CreepGate, 1, 0)},
		"changes are no matter on the first day": {func(s *api.CreepSite) { s.Caverns[0].Change = 0 }, []api.CreepDay{pressed(0, exactly(20000))}, noFault(), noFault()},
		"down just so fast":                      {asIs, []api.CreepDay{pressed(2, exactly(16000)), calmDay()}, noFault(), noFault()},
		"down too fast":                          {asIs, []api.CreepDay{pressed(2, exactly(16001)), calmDay()}, fault(1, api.CreepFast, 2, 0), fault(1, api.CreepFast, 2, 0)},
		"up just so fast":                        {asIs, []api.CreepDay{calmDay(), pressed(2, exactly(16000))}, noFault(), noFault()},
		"up too fast":                            {asIs, []api.CreepDay{calmDay(), pressed(2, exactly(16001))}, fault(1, api.CreepFast, 2, 0), fault(1, api.CreepFast, 2, 0)},
		"down perhaps too fast":                  {asIs, []api.CreepDay{pressed(2, span(15900, 16001)), calmDay()}, fault(1, api.CreepFast, 2, 0), noFault()},
		"up perhaps too fast":                    {asIs, []api.CreepDay{pressed(2, span(11999, 12500)), pressed(2, span(12500, 16000))}, fault(1, api.CreepFast, 2, 0), noFault()},
		"up too fast from a span":                {asIs, []api.CreepDay{pressed(2, span(12000, 12500)), pressed(2, span(16501, 16600))}, fault(1, api.CreepFast, 2, 0), fault(1, api.CreepFast, 2, 0)},
		"no change":                              {func(s *api.CreepSite) { s.Caverns[2].Change = 0 }, []api.CreepDay{calmDay(), calmDay()}, noFault(), noFault()},
		"perhaps no change":                      {func(s *api.CreepSite) { s.Caverns[2].Change = 0 }, []api.CreepDay{calmDay(), pressed(2, span(12000, 12001))}, fault(1, api.CreepFast, 2, 0), noFault()},
		"a wide span":                            {asIs, []api.CreepDay{pressed(2, span(11500, 15501)), pressed(2, span(11500, 15501))}, fault(1, api.CreepFast, 2, 0), noFault()},
		"two days ago is no matter":              {asIs, []api.CreepDay{pressed(2, exactly(18800)), pressed(2, exactly(15900)), calmDay()}, noFault(), noFault()},
		"a gate comes ahead of a change":         {gate, []api.CreepDay{pressed(0, exactly(17000)), pressed(1, exactly(12101))}, fault(1, api.CreepGate, 1, 0), fault(1, api.CreepGate, 1, 0)},
	})
}

// P2.4: volumes that are too small, walls that are too thin, and houses that have sunk too far.
func TestFaultsOfStates(t *testing.T) {
	// on a low day the first cavern surely loses 100 cubic metres and 20 millimetres, on a lower one perhaps
	low, perhaps := pressed(0, exactly(8000)), pressed(0, exactly(10500))
	floor := func(n int) func(*api.CreepSite) { return func(s *api.CreepSite) { s.Caverns[0].Floor = n } }
	wall := func(n int) func(*api.CreepSite) { return func(s *api.CreepSite) { s.Wall = n } }
	house := func(x, most int) func(*api.CreepSite) {
		return func(s *api.CreepSite) { s.Houses[1].X, s.Houses[1].Y, s.Houses[1].Most = x, 0, most }
	}
	hot := low
	hot.Warmths = []api.Span{exactly(3050), exactly(3000), exactly(3000)}
	compareFaults(t, map[string]faultCase{
		"just great enough":                {floor(99900), []api.CreepDay{low}, noFault(), noFault()},
		"too small":                        {floor(99901), []api.CreepDay{low}, fault(0, api.CreepSmall, 0, 0), fault(0, api.CreepSmall, 0, 0)},
		"perhaps too small":                {floor(99901), []api.CreepDay{calmDay(), perhaps, perhaps}, fault(1, api.CreepSmall, 0, 0), noFault()},
		"hot and perhaps too small":        {floor(99900), []api.CreepDay{hot, calmDay()}, fault(0, api.CreepSmall, 0, 0), noFault()},
		"too small at first":               {floor(100001), []api.CreepDay{calmDay()}, fault(0, api.CreepSmall, 0, 0), fault(0, api.CreepSmall, 0, 0)},
		"perhaps at first, then surely":    {func(s *api.CreepSite) { s.Caverns[0].Volume.Low, s.Caverns[0].Floor = 90000, 99901 }, []api.CreepDay{calmDay(), low}, fault(0, api.CreepSmall, 0, 0), fault(1, api.CreepSmall, 0, 0)},
		"just thick enough":                {wall(39980), []api.CreepDay{low}, noFault(), noFault()},
		"too thin":                         {wall(39981), []api.CreepDay{low}, fault(0, api.CreepThin, 0, 1), fault(0, api.CreepThin, 0, 1)},
		"perhaps too thin":                 {wall(39981), []api.CreepDay{perhaps}, fault(0, api.CreepThin, 0, 1), noFault()},
		"too thin behind two days":         {wall(39980), []api.CreepDay{low, perhaps, low}, fault(1, api.CreepThin, 0, 1), fault(2, api.CreepThin, 0, 1)},
		"the wall between others":          {func(s *api.CreepSite) { s.Caverns[1].Radius.Low = 0; s.Caverns[2].X = 199 }, nil, noFault(), noFault()},
		"the first of two others":          {func(s *api.CreepSite) { s.Caverns[2].X = 50 }, []api.CreepDay{calmDay()}, fault(0, api.CreepThin, 0, 2), fault(0, api.CreepThin, 0, 2)},
		"a later pair":                     {func(s *api.CreepSite) { s.Caverns[2].X = 150 }, []api.CreepDay{calmDay()}, fault(0, api.CreepThin, 1, 2), fault(0, api.CreepThin, 1, 2)},
		"another pair is certain":          {func(s *api.CreepSite) { s.Caverns[2].X = 150; s.Caverns[0].Radius.High = 80000 }, []api.CreepDay{calmDay()}, fault(0, api.CreepThin, 0, 1), fault(0, api.CreepThin, 1, 2)},
		"just sunk so far":                 {house(6, 100), []api.CreepDay{low}, noFault(), noFault()},
		"sunk too far":                     {house(10, 99), []api.CreepDay{low}, fault(0, api.CreepSunk, 1, 0), fault(0, api.CreepSunk, 1, 0)},
		"too far away":                     {house(11, 0), []api.CreepDay{low, low}, noFault(), noFault()},
		"perhaps sunk too far":             {house(-10, 98), []api.CreepDay{perhaps, calmDay(), low}, fault(0, api.CreepSunk, 1, 0), fault(2, api.CreepSunk, 1, 0)},
		"sunk too far behind two days":     {house(0, 199), []api.CreepDay{low, calmDay(), low}, fault(2, api.CreepSunk, 1, 0), noFault()},
		"a change comes ahead of a volume": {func(s *api.CreepSite) { s.Caverns[0].Floor, s.Caverns[0].Change = 100000, 3999 }, []api.CreepDay{calmDay(), low}, fault(1, api.CreepFast, 0, 0), fault(1, api.CreepFast, 0, 0)},
		"a volume comes ahead of a wall":   {func(s *api.CreepSite) { s.Wall = 50000; s.Caverns[2].Floor = 100001 }, []api.CreepDay{calmDay()}, fault(0, api.CreepSmall, 2, 0), fault(0, api.CreepSmall, 2, 0)},
		"a wall comes ahead of a house":    {func(s *api.CreepSite) { s.Wall = 40000; s.Houses[1] = api.CreepHouse{} }, []api.CreepDay{low}, fault(0, api.CreepThin, 0, 1), fault(0, api.CreepThin, 0, 1)},
		"the first of some houses":         {func(s *api.CreepSite) { s.Houses[1], s.Houses[2] = api.CreepHouse{}, api.CreepHouse{} }, []api.CreepDay{low}, fault(0, api.CreepSunk, 1, 0), fault(0, api.CreepSunk, 1, 0)},
	})
}

// P2.4
func TestFaultsErrors(t *testing.T) {
	s := example()
	days := make([]api.CreepDay, api.CreepDays+1)
	s.Wall = -1
	if x, y, e := creep.Faults(s, days); e != api.ErrLong || x != (api.CreepFault{}) || y != (api.CreepFault{}) {
		t.Error(x, y, e)
	}
	if x, y, e := creep.Faults(s, days[:api.CreepDays]); e != api.ErrArg || x != (api.CreepFault{}) || y != (api.CreepFault{}) {
		t.Error(x, y, e)
	}
	s = calm()
	for k := range days {
		days[k] = calmDay()
	}
	days[59] = pressed(0, exactly(16001))
	if x, y := faultsOf(t, s, days[:api.CreepDays]...); x != fault(59, api.CreepFast, 0, 0) || y != x {
		t.Error(x, y)
	}
}

// outlook is a day as an oracle looks at it.
type outlook struct {
	s      api.CreepSite
	days   []api.CreepDay
	k      int
	behind []api.CreepState
	known  bool
}

// wrong returns the first fault of a day as the chapter says it.
func (x outlook) wrong(certain bool) api.CreepFault {
	less := func(n api.Span, limit int) bool { return n.Low < limit && (!certain || n.High < limit) }
	more := func(n api.Span, limit int) bool { return n.High > limit && (!certain || n.Low > limit) }
	for rule := api.CreepBeyond; rule <= api.CreepThin; rule++ {
		for i, c := range x.s.Caverns {
			p := x.days[x.k].Pressures[i]
			with, broken := 0, false
			switch rule {
			case api.CreepBeyond:
				_, known := moved(x.s, i, api.CreepState{}, p, x.days[x.k].Warmths[i])
				broken = !known
			case api.CreepGate:
				outside := 0
				for n := p.Low; n <= p.High; n++ {
					if !in(c.Gate, n) {
						outside++
					}
				}
				broken = outside > 0 && (!certain || outside == p.High-p.Low+1)
			case api.CreepFast:
				broken = x.k > 0 && tooFast(x.days[x.k-1].Pressures[i], p, c.Change, certain)
			case api.CreepSmall:
				broken = less(x.behind[i].Volume, c.Floor)
			case api.CreepThin:
				for j := len(x.s.Caverns) - 1; j > i; j-- {
					apart, a, b := distance(c, x.s.Caverns[j]), x.behind[i].Radius, x.behind[j].Radius
					if less(span(apart-a.High-b.High, apart-a.Low-b.Low), x.s.Wall) {
						with, broken = j, true
					}
				}
			}
			if broken {
				return fault(x.k, rule, i, with)
			}
		}
	}
	for k, h := range x.s.Houses {
		if more(sunkAt(x.s, x.behind, h.X, h.Y), h.Most) {
			return fault(x.k, api.CreepSunk, k, 0)
		}
	}
	return noFault()
}

// tooFast goes through all pressures of two days.
func tooFast(before, now api.Span, change int, certain bool) bool {
	some, all := false, true
	for p := before.Low; p <= before.High; p++ {
		for q := now.Low; q <= now.High; q++ {
			fast := max(p-q, q-p) > change
			some, all = some || fast, all && fast
		}
	}
	return some && (!certain || all)
}

// faultsAsSaid returns the faults of days as the chapter says them.
func faultsAsSaid(s api.CreepSite, l []api.CreepState, days []api.CreepDay) (api.CreepFault, api.CreepFault) {
	possible, certain := noFault(), noFault()
	for k, d := range days {
		x := outlook{s: s, days: days, k: k, known: true}
		for i := range l {
			next, ok := moved(s, i, l[i], d.Pressures[i], d.Warmths[i])
			x.behind, x.known = append(x.behind, next), x.known && ok
		}
		if possible.Rule == api.CreepFine {
			possible = x.wrong(false)
		}
		if !x.known {
			break
		}
		if certain.Rule == api.CreepFine {
			certain = x.wrong(true)
		}
		l = x.behind
	}
	return possible, certain
}

// wrongInTruth returns the first of some days on which something is wrong in some truth, or how many days there are.
func wrongInTruth(r *rand.Rand, s api.CreepSite, days []api.CreepDay) int {
	var truths []truth
	for _, c := range s.Caverns {
		truths = append(truths, firstTruth(r, c))
	}
	before := make([]int, len(truths))
	for k, d := range days {
		wrong := false
		for i, c := range s.Caverns {
			p := some(r, d.Pressures[i])
			x, known := live(r, s, i, truths[i], p, some(r, d.Warmths[i]))
			if !known {
				return k
			}
			wrong = wrong || !in(c.Gate, p) || k > 0 && max(p-before[i], before[i]-p) > c.Change || x.volume < c.Floor
			truths[i], before[i] = x, p
			for j := range i {
				wrong = wrong || distance(c, s.Caverns[j])-x.radius-truths[j].radius < s.Wall
			}
		}
		for _, h := range s.Houses {
			sum := 0
			for i, c := range s.Caverns {
				sum += truths[i].lost * some(r, shareAt(s, c, h.X, h.Y))
			}
			wrong = wrong || sum > h.Most*1e6
		}
		if wrong {
			return k
		}
	}
	return len(days)
}

// P2.4, P0.2 (walls): the faults are those that the chapter says; in no truth is anything wrong before the first possible one, and in every truth something is, at the latest with the first certain one.
func TestFaultsAreTrue(t *testing.T) {
	r := rand.New(rand.NewSource(7))
	var possible, certain [api.CreepSunk + 1]int
	for range 6000 {
		s := small(r, 1+r.Intn(4))
		var days []api.CreepDay
		for k := range r.Intn(7) {
			d := someDay(r, s)
			for i := range d.Pressures {
				if k > 0 && r.Intn(3) > 0 {
					d.Pressures[i] = days[k-1].Pressures[i]
				}
			}
			days = append(days, d)
		}
		x, y := faultsOf(t, s, days...)
		if wantX, wantY := faultsAsSaid(s, begin(t, s), days); x != wantX || y != wantY {
			t.Fatal(s, days, x, y, wantX, wantY)
		}
		possible[x.Rule]++
		certain[y.Rule]++
		for range 20 {
			k := wrongInTruth(r, s, days)
			if x.Rule != api.CreepFine && k < x.Day || x.Rule == api.CreepFine && k < len(days) || y.Rule != api.CreepFine && k > y.Day {
				t.Fatal(s, days, x, y, k)
			}
		}
	}
	for rule := api.CreepFine; rule <= api.CreepSunk; rule++ {
		if possible[rule] < 50 || rule != api.CreepBeyond && certain[rule] < 20 {
			t.Error("too few faults", rule, possible, certain)
		}
	}
}
