package creep_test

import (
	"math/rand"
	"slices"
	"testing"

	"saltdome/api"
	"saltdome/creep"
)

func span(low, high int) api.Span { return api.Span{Low: low, High: high} }

func exactly(n int) api.Span { return span(n, n) }

func in(s api.Span, n int) bool { return s.Low <= n && n <= s.High }

func inside(s, of api.Span) bool { return of.Low <= s.Low && s.High <= of.High }

// example returns the site s of the chapter.
func example() api.CreepSite {
	return api.CreepSite{
		Caverns: []api.CreepCavern{
			{X: 0, Y: 0, Radius: span(30000, 31000), Volume: span(400000, 410000), Rock: 20000, Floor: 399800, Gate: span(6000, 16000), Change: 3000},
			{X: 100, Y: 0, Radius: span(30000, 30500), Volume: span(300000, 300000), Rock: 20000, Floor: 290000, Gate: span(6000, 16000), Change: 3000},
		},
		Rows: []api.CreepRow{
			{Deficit: 0, Rate: span(0, 10), Spall: span(0, 0)},
			{Deficit: 8000, Rate: span(20, 50), Spall: span(0, 5)},
			{Deficit: 14000, Rate: span(100, 200), Spall: span(10, 30)},
		},
		Heats:  []api.CreepHeat{{Warmth: 3000, Factor: span(1000, 1000)}, {Warmth: 3200, Factor: span(1000, 1200)}},
		Wall:   38440,
		Rings:  []api.CreepRing{{Away: 50, Share: span(900, 1000)}, {Away: 150, Share: span(100, 200)}},
		Houses: []api.CreepHouse{{X: 40, Y: 0, Most: 1}},
	}
}

// exampleDay returns the day d of the chapter.
func exampleDay() api.CreepDay {
	return day(exactly(3100), span(10000, 12000), exactly(15000))
}

// day returns a day on which all caverns have the same temperature.
func day(warmth api.Span, pressures ...api.Span) api.CreepDay {
	d := api.CreepDay{Pressures: pressures}
	for range pressures {
		d.Warmths = append(d.Warmths, warmth)
	}
	return d
}

// begin returns the states of a site at first.
func begin(t *testing.T, s api.CreepSite) []api.CreepState {
	t.Helper()
	l, e := creep.Begin(s)
	if e != api.OK {
		t.Fatal(s, e)
	}
	return l
}

func copySite(s api.CreepSite) api.CreepSite {
	s.Caverns, s.Rows, s.Heats = slices.Clone(s.Caverns), slices.Clone(s.Rows), slices.Clone(s.Heats)
	s.Rings, s.Houses = slices.Clone(s.Rings), slices.Clone(s.Houses)
	return s
}

// greatest returns a site, states and a day in which every number is as great as it can be.
func greatest() (api.CreepSite, []api.CreepState, api.CreepDay) {
	var s api.CreepSite
	var l []api.CreepState
	var d api.CreepDay
	for i := range api.CreepCaverns {
		s.Caverns = append(s.Caverns, api.CreepCavern{X: api.CreepPlace - i, Y: api.CreepPlace, Radius: exactly(api.CreepRadius), Volume: exactly(api.CreepVolume), Rock: api.CreepPressure, Floor: api.CreepVolume, Gate: span(0, api.CreepPressure), Change: api.CreepPressure})
		l = append(l, api.CreepState{Radius: exactly(2 * api.CreepRadius), Volume: exactly(api.CreepVolume), Lost: exactly(100 * api.CreepVolume)})
		d.Pressures = append(d.Pressures, exactly(0))
		d.Warmths = append(d.Warmths, exactly(api.CreepWarmth))
	}
	for i := range api.CreepRows {
		deficit := i * api.CreepPressure / (api.CreepRows - 1)
		s.Rows = append(s.Rows, api.CreepRow{Deficit: deficit, Rate: exactly(api.CreepRate), Spall: exactly(api.CreepSpall)})
		s.Heats = append(s.Heats, api.CreepHeat{Warmth: api.CreepWarmth - api.CreepRows + 1 + i, Factor: exactly(api.CreepFactor)})
	}
	for i := range api.CreepRings {
		s.Rings = append(s.Rings, api.CreepRing{Away: 4*api.CreepPlace - api.CreepRings + 1 + i, Share: exactly(api.CreepShare)})
	}
	for range api.CreepHouses {
		s.Houses = append(s.Houses, api.CreepHouse{X: -api.CreepPlace, Y: -api.CreepPlace, Most: api.CreepShare})
	}
	s.Wall = api.CreepWall
	return s, l, d
}

// someSpan returns a span of numbers from 0 to most.
func someSpan(r *rand.Rand, most int) api.Span {
	low := r.Intn(most + 1)
	return span(low, low+r.Intn(most-low+1)*r.Intn(2))
}

// risingSpan returns a span with bounds that are not less than those of another one, by at most more.
func risingSpan(r *rand.Rand, s api.Span, more, most int) api.Span {
	low := min(s.Low+r.Intn(more+1), most)
	return span(low, min(max(low, s.High+r.Intn(more+1)), most))
}

// small returns a site with n caverns and small numbers, on which much can be wrong.
func small(r *rand.Rand, n int) api.CreepSite {
	var s api.CreepSite
	places := r.Perm(49)
	for i := range n {
		volume := someSpan(r, 3000)
		s.Caverns = append(s.Caverns, api.CreepCavern{X: places[i]%7 - 3, Y: places[i]/7 - 3, Radius: someSpan(r, 400), Volume: volume, Rock: 15 + r.Intn(15), Floor: max(0, volume.Low-r.Intn(600)), Gate: span(r.Intn(8), 12+r.Intn(20)), Change: 2 + r.Intn(20)})
	}
	row := api.CreepRow{Rate: someSpan(r, 10000), Spall: someSpan(r, 5)}
	for range 1 + r.Intn(6) {
		s.Rows = append(s.Rows, row)
		row = api.CreepRow{Deficit: row.Deficit + 1 + r.Intn(15), Rate: risingSpan(r, row.Rate, 20000, api.CreepRate), Spall: risingSpan(r, row.Spall, 40, api.CreepSpall)}
	}
	heat := api.CreepHeat{Warmth: r.Intn(3), Factor: someSpan(r, 1000)}
	for range 1 + r.Intn(5) {
		s.Heats = append(s.Heats, heat)
		heat = api.CreepHeat{Warmth: heat.Warmth + 1 + r.Intn(5), Factor: risingSpan(r, heat.Factor, 1000, api.CreepFactor)}
	}
	away := 0
	for range r.Intn(4) {
		away += 1 + r.Intn(4)
		s.Rings = append(s.Rings, api.CreepRing{Away: away, Share: someSpan(r, api.CreepShare)})
	}
	for range r.Intn(3) {
		s.Houses = append(s.Houses, api.CreepHouse{X: r.Intn(9) - 4, Y: r.Intn(9) - 4, Most: r.Intn(3000)})
	}
	s.Wall = r.Intn(1000)
	return s
}

// someDay returns a day of a small site, which is seldom beyond its tables.
func someDay(r *rand.Rand, s api.CreepSite) api.CreepDay {
	var d api.CreepDay
	last := s.Rows[len(s.Rows)-1].Deficit
	cold, hot := s.Heats[0].Warmth, s.Heats[len(s.Heats)-1].Warmth
	for _, c := range s.Caverns {
		low := max(0, c.Rock-last, c.Gate.Low)
		p := low + r.Intn(max(0, min(c.Rock, c.Gate.High)-low)+1)
		w := cold + r.Intn(hot-cold+1)
		d.Pressures = append(d.Pressures, span(max(0, p-r.Intn(20)/19), p+r.Intn(20)/18))
		d.Warmths = append(d.Warmths, span(max(0, w-r.Intn(40)/39), w+r.Intn(2)*r.Intn(hot-w+1)))
	}
	return d
}

// rowsFor returns the last row of some numbers that is at most n, and the first that is at least n; false, if n is beyond the table.
func rowsFor(numbers []int, n int) (int, int, bool) {
	last, first := -1, -1
	for k, x := range numbers {
		if x <= n {
			last = k
		}
		if x >= n && first < 0 {
			first = k
		}
	}
	return last, first, last >= 0 && first >= 0
}

func deficits(s api.CreepSite) []int {
	var l []int
	for _, r := range s.Rows {
		l = append(l, r.Deficit)
	}
	return l
}

func warmths(s api.CreepSite) []int {
	var l []int
	for _, h := range s.Heats {
		l = append(l, h.Warmth)
	}
	return l
}

// moved returns the state of a cavern after a day, as the chapter says it; false, if something is beyond a table.
func moved(s api.CreepSite, i int, x api.CreepState, pressure, warmth api.Span) (api.CreepState, bool) {
	slow, _, ok1 := rowsFor(deficits(s), s.Caverns[i].Rock-pressure.High)
	_, fast, ok2 := rowsFor(deficits(s), s.Caverns[i].Rock-pressure.Low)
	cold, _, ok3 := rowsFor(warmths(s), warmth.Low)
	_, hot, ok4 := rowsFor(warmths(s), warmth.High)
	if !ok1 || !ok2 || !ok3 || !ok4 {
		return api.CreepState{}, false
	}
	least := func(v int) int { return v * s.Rows[slow].Rate.Low * s.Heats[cold].Factor.Low }
	most := func(v int) int { return v * s.Rows[fast].Rate.High * s.Heats[hot].Factor.High }
	return api.CreepState{
		Radius: span(min(x.Radius.Low+s.Rows[slow].Spall.Low, 2*api.CreepRadius), min(x.Radius.High+s.Rows[fast].Spall.High, 2*api.CreepRadius)),
		Volume: span(max(0, x.Volume.Low-up(most(x.Volume.Low), 1e9)), max(0, x.Volume.High-least(x.Volume.High)/1e9)),
		Lost:   span(min(x.Lost.Low+least(x.Volume.Low)/1e9, 100*api.CreepVolume), min(x.Lost.High+min(up(most(x.Volume.High), 1e9), x.Volume.High), 100*api.CreepVolume)),
	}, true
}

// up returns a quotient that is rounded up.
func up(n, by int) int {
	if n%by == 0 {
		return n / by
	}
	return n/by + 1
}

// distance returns the greatest number of millimetres whose square is at most that of a distance.
func distance(a, b api.CreepCavern) int {
	x, y := 1000*(a.X-b.X), 1000*(a.Y-b.Y)
	n := 0
	for step := 1 << 30; step > 0; step /= 2 {
		if (n+step)*(n+step) <= x*x+y*y {
			n += step
		}
	}
	return n
}

// shareAt returns the share of a cavern at a place.
func shareAt(s api.CreepSite, c api.CreepCavern, x, y int) api.Span {
	x, y = x-c.X, y-c.Y
	k := slices.IndexFunc(s.Rings, func(r api.CreepRing) bool { return r.Away*r.Away >= x*x+y*y })
	if k < 0 {
		return api.Span{}
	}
	return s.Rings[k].Share
}

// sunkAt returns the bounds of the subsidence at a place, as the chapter says it.
func sunkAt(s api.CreepSite, l []api.CreepState, x, y int) api.Span {
	var sum api.Span
	for i, c := range s.Caverns {
		share := shareAt(s, c, x, y)
		sum.Low += l[i].Lost.Low * share.Low / 1e6
		sum.High += up(l[i].Lost.High*share.High, 1e6)
	}
	return sum
}

// truth is what is true of a cavern.
type truth struct{ radius, volume, lost int }

// some returns a number of a span, often one of its ends.
func some(r *rand.Rand, s api.Span) int {
	switch r.Intn(4) {
	case 0:
		return s.Low
	case 1:
		return s.High
	}
	return s.Low + r.Intn(s.High-s.Low+1)
}

// firstTruth returns something that is true of a cavern at first.
func firstTruth(r *rand.Rand, c api.CreepCavern) truth {
	return truth{radius: some(r, c.Radius), volume: some(r, c.Volume)}
}

// live returns something that is true of a cavern after a day with some pressure and temperature; false, if these are beyond a table.
func live(r *rand.Rand, s api.CreepSite, i int, x truth, pressure, warmth int) (truth, bool) {
	slow, fast, ok := rowsFor(deficits(s), s.Caverns[i].Rock-pressure)
	cold, hot, known := rowsFor(warmths(s), warmth)
	if !ok || !known {
		return truth{}, false
	}
	rate := some(r, span(s.Rows[slow].Rate.Low, s.Rows[fast].Rate.High))
	factor := some(r, span(s.Heats[cold].Factor.Low, s.Heats[hot].Factor.High))
	product := x.volume * rate * factor
	lost := min(x.volume, some(r, span(product/1e9, up(product, 1e9))))
	spall := some(r, span(s.Rows[slow].Spall.Low, s.Rows[fast].Spall.High))
	return truth{x.radius + spall, x.volume - lost, x.lost + lost}, true
}

// badSite is a change that makes the example a site that is not as defined.
type badSite struct {
	name   string
	change func(*api.CreepSite)
}

func badSites() []badSite {
	l := []badSite{
		{"no caverns", func(s *api.CreepSite) { s.Caverns = nil }},
		{"too many caverns", func(s *api.CreepSite) {
			for len(s.Caverns) <= api.CreepCaverns {
				c := s.Caverns[0]
				c.Y = len(s.Caverns)
				s.Caverns = append(s.Caverns, c)
			}
		}},
		{"two caverns at a place", func(s *api.CreepSite) { s.Caverns[1].X = 0 }},
		{"no rows", func(s *api.CreepSite) { s.Rows = nil }},
		{"too many rows", func(s *api.CreepSite) {
			for len(s.Rows) <= api.CreepRows {
				row := s.Rows[len(s.Rows)-1]
				row.Deficit++
				s.Rows = append(s.Rows, row)
			}
		}},
		{"first Deficit not 0", func(s *api.CreepSite) { s.Rows[0].Deficit = 1 }},
		{"first Deficit less than 0", func(s *api.CreepSite) { s.Rows[0].Deficit = -1 }},
		{"Deficits that do not rise", func(s *api.CreepSite) { s.Rows[1].Deficit = 14000 }},
		{"Deficit too great", func(s *api.CreepSite) { s.Rows[2].Deficit = api.CreepPressure + 1 }},
		{"Rate less than 0", func(s *api.CreepSite) { s.Rows[0].Rate.Low = -1 }},
		{"Rate turned", func(s *api.CreepSite) { s.Rows[2].Rate.Low = 201 }},
		{"Rate too great", func(s *api.CreepSite) { s.Rows[2].Rate.High = api.CreepRate + 1 }},
		{"Rate.Low falls", func(s *api.CreepSite) { s.Rows[2].Rate.Low = 19 }},
		{"Rate.High falls", func(s *api.CreepSite) { s.Rows[0].Rate.High = 51 }},
		{"Spall less than 0", func(s *api.CreepSite) { s.Rows[0].Spall.Low = -1 }},
		{"Spall turned", func(s *api.CreepSite) { s.Rows[2].Spall.Low = 31 }},
		{"Spall too great", func(s *api.CreepSite) { s.Rows[2].Spall.High = api.CreepSpall + 1 }},
		{"Spall.Low falls", func(s *api.CreepSite) { s.Rows[1].Spall = span(5, 5); s.Rows[2].Spall = span(4, 9) }},
		{"Spall.High falls", func(s *api.CreepSite) { s.Rows[1].Spall.High = 31 }},
		{"no heats", func(s *api.CreepSite) { s.Heats = nil }},
		{"too many heats", func(s *api.CreepSite) {
			for len(s.Heats) <= api.CreepRows {
				heat := s.Heats[len(s.Heats)-1]
				heat.Warmth++
				s.Heats = append(s.Heats, heat)
			}
		}},
		{"Warmth less than 0", func(s *api.CreepSite) { s.Heats[0].Warmth = -1 }},
		{"Warmths that do not rise", func(s *api.CreepSite) { s.Heats[0].Warmth = 3200 }},
		{"Warmth too great", func(s *api.CreepSite) { s.Heats[1].Warmth = api.CreepWarmth + 1 }},
		{"Factor less than 0", func(s *api.CreepSite) { s.Heats[0].Factor.Low = -1 }},
		{"Factor turned", func(s *api.CreepSite) { s.Heats[1].Factor.Low = 1201 }},
		{"Factor too great", func(s *api.CreepSite) { s.Heats[1].Factor.High = api.CreepFactor + 1 }},
		{"Factor.Low falls", func(s *api.CreepSite) { s.Heats[1].Factor.Low = 999 }},
		{"Factor.High falls", func(s *api.CreepSite) { s.Heats[0].Factor.High = 1201 }},
		{"Wall less than 0", func(s *api.CreepSite) { s.Wall = -1 }},
		{"Wall too great", func(s *api.CreepSite) { s.Wall = api.CreepWall + 1 }},
		{"too many rings", func(s *api.CreepSite) {
			for len(s.Rings) <= api.CreepRings {
				ring := s.Rings[len(s.Rings)-1]
				ring.Away++
				s.Rings = append(s.Rings, ring)
			}
		}},
		{"Away less than 0", func(s *api.CreepSite) { s.Rings[0].Away = -1 }},
		{"Aways that do not rise", func(s *api.CreepSite) { s.Rings[1].Away = 50 }},
		{"Away too great", func(s *api.CreepSite) { s.Rings[1].Away = 4*api.CreepPlace + 1 }},
		{"Share less than 0", func(s *api.CreepSite) { s.Rings[0].Share.Low = -1 }},
		{"Share turned", func(s *api.CreepSite) { s.Rings[1].Share.Low = 201 }},
		{"Share too great", func(s *api.CreepSite) { s.Rings[1].Share.High = api.CreepShare + 1 }},
		{"too many houses", func(s *api.CreepSite) { s.Houses = make([]api.CreepHouse, api.CreepHouses+1) }},
		{"a house too far west", func(s *api.CreepSite) { s.Houses[0].X = -api.CreepPlace - 1 }},
		{"a house too far east", func(s *api.CreepSite) { s.Houses[0].X = api.CreepPlace + 1 }},
		{"a house too far south", func(s *api.CreepSite) { s.Houses[0].Y = -api.CreepPlace - 1 }},
		{"a house too far north", func(s *api.CreepSite) { s.Houses[0].Y = api.CreepPlace + 1 }},
		{"Most less than 0", func(s *api.CreepSite) { s.Houses[0].Most = -1 }},
		{"Most too great", func(s *api.CreepSite) { s.Houses[0].Most = api.CreepShare + 1 }},
	}
	return append(l, badCaverns()...)
}

func badCaverns() []badSite {
	var l []badSite
	for name, change := range map[string]func(*api.CreepCavern){
		"X too small":        func(c *api.CreepCavern) { c.X = -api.CreepPlace - 1 },
		"X too great":        func(c *api.CreepCavern) { c.X = api.CreepPlace + 1 },
		"Y too small":        func(c *api.CreepCavern) { c.Y = -api.CreepPlace - 1 },
		"Y too great":        func(c *api.CreepCavern) { c.Y = api.CreepPlace + 1 },
		"Radius less than 0": func(c *api.CreepCavern) { c.Radius.Low = -1 },
		"Radius turned":      func(c *api.CreepCavern) { c.Radius = span(6, 5) },
		"Radius too great":   func(c *api.CreepCavern) { c.Radius.High = api.CreepRadius + 1 },
		"Volume less than 0": func(c *api.CreepCavern) { c.Volume.Low = -1 },
		"Volume turned":      func(c *api.CreepCavern) { c.Volume = span(6, 5) },
		"Volume too great":   func(c *api.CreepCavern) { c.Volume.High = api.CreepVolume + 1 },
		"Rock less than 0":   func(c *api.CreepCavern) { c.Rock = -1 },
		"Rock too great":     func(c *api.CreepCavern) { c.Rock = api.CreepPressure + 1 },
		"Floor less than 0":  func(c *api.CreepCavern) { c.Floor = -1 },
		"Floor too great":    func(c *api.CreepCavern) { c.Floor = api.CreepVolume + 1 },
		"Gate less than 0":   func(c *api.CreepCavern) { c.Gate.Low = -1 },
		"Gate turned":        func(c *api.CreepCavern) { c.Gate = span(6, 5) },
		"Gate too great":     func(c *api.CreepCavern) { c.Gate.High = api.CreepPressure + 1 },
		"Change less than 0": func(c *api.CreepCavern) { c.Change = -1 },
		"Change too great":   func(c *api.CreepCavern) { c.Change = api.CreepPressure + 1 },
	} {
		for i := range example().Caverns {
			l = append(l, badSite{name, func(s *api.CreepSite) { change(&s.Caverns[i]) }})
		}
	}
	return l
}

// errorsOf calls every function with a site of two caverns.
func errorsOf(s api.CreepSite) map[string]api.Errno {
	states := make([]api.CreepState, 2)
	l := map[string]api.Errno{"Check": creep.Check(s)}
	_, l["Thick"] = creep.Thick(s, 0, 1)
	_, l["Begin"] = creep.Begin(s)
	_, l["Move"] = creep.Move(s, states, exampleDay())
	_, l["Sunk"] = creep.Sunk(s, states, 0, 0)
	_, _, l["Faults"] = creep.Faults(s, []api.CreepDay{exampleDay()})
	_, l["Longest"] = creep.Longest(s, 0, exactly(12000), exactly(3100))
	_, l["Least"] = creep.Least(s, 0, exactly(3100), 1)
	_, l["Plan"] = creep.Plan(s, []int{12000, 12000}, []int{15000, 15000}, exactly(3100), nil)
	return l
}
