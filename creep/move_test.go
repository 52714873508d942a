package creep_test

import (
	"math/rand"
	"slices"
	"testing"

	"saltdome/api"
	"saltdome/creep"
)

// P2.2
func TestMove(t *testing.T) {
	s := example()
	want := []api.CreepState{
		{Radius: span(30000, 31030), Volume: span(399904, 409992), Lost: span(8, 99)},
		{Radius: span(30000, 30505), Volume: span(299982, 300000), Lost: span(0, 18)},
	}
	if l, e := creep.Move(s, begin(t, s), exampleDay()); e != api.OK || !slices.Equal(l, want) {
		t.Error(l, e)
	}
}

// P2.2: what the tables say of a row's own number, of ones between, and of the ends.
func TestTables(t *testing.T) {
	s := example()
	s.Caverns = s.Caverns[:1]
	s.Caverns[0].Volume, s.Caverns[0].Radius = exactly(1000000), exactly(0)
	for i, x := range []struct {
		pressure, warmth       api.Span
		spall, volume, andLost api.Span
	}{
		{exactly(20000), exactly(3000), span(0, 0), span(999990, 1000000), span(0, 10)},
		{exactly(20000), exactly(3001), span(0, 0), span(999988, 1000000), span(0, 12)},
		{exactly(19999), exactly(3000), span(0, 5), span(999950, 1000000), span(0, 50)},
		{exactly(12001), exactly(3000), span(0, 5), span(999950, 1000000), span(0, 50)},
		{exactly(12000), exactly(3000), span(0, 5), span(999950, 999980), span(20, 50)},
		{exactly(12000), exactly(3200), span(0, 5), span(999940, 999980), span(20, 60)},
		{exactly(11999), exactly(3200), span(0, 30), span(999760, 999980), span(20, 240)},
		{exactly(6001), exactly(3000), span(0, 30), span(999800, 999980), span(20, 200)},
		{exactly(6000), exactly(3000), span(10, 30), span(999800, 999900), span(100, 200)},
		{span(6000, 20000), span(3000, 3200), span(0, 30), span(999760, 1000000), span(0, 240)},
		{span(11999, 12000), span(3000, 3000), span(0, 30), span(999800, 999980), span(20, 200)},
	} {
		l, e := creep.Move(s, begin(t, s), day(x.warmth, x.pressure))
		if want := (api.CreepState{Radius: x.spall, Volume: x.volume, Lost: x.andLost}); e != api.OK || len(l) != 1 || l[0] != want {
			t.Error(i, l, e)
		}
	}
}

// P2.2: rates and factors that take all of a volume, numbers that can be no greater, and a volume of which each part is less than one.
func TestMoveToTheEnds(t *testing.T) {
	s, l, d := greatest()
	want := api.CreepState{Radius: exactly(2 * api.CreepRadius), Volume: exactly(0), Lost: exactly(100 * api.CreepVolume)}
	got, e := creep.Move(s, l, d)
	if e != api.OK || !slices.Equal(got, []api.CreepState{want, want, want, want, want}) {
		t.Error(got, e)
	}
	want = api.CreepState{Radius: exactly(api.CreepRadius + api.CreepSpall), Volume: exactly(0), Lost: exactly(api.CreepVolume)}
	if got, e = creep.Move(s, begin(t, s), d); e != api.OK || got[4] != want {
		t.Error(got, e)
	}
	near := api.CreepState{Radius: span(2*api.CreepRadius-api.CreepSpall-1, 2*api.CreepRadius-api.CreepSpall+1), Volume: span(5, 9), Lost: span(100*api.CreepVolume-6, 100*api.CreepVolume-4)}
	l[2] = near
	want = api.CreepState{Radius: span(2*api.CreepRadius-1, 2*api.CreepRadius), Volume: exactly(0), Lost: span(100*api.CreepVolume-1, 100*api.CreepVolume)}
	if got, e = creep.Move(s, l, d); e != api.OK || got[2] != want {
		t.Error(got, e)
	}
	s = example()
	l = []api.CreepState{{Volume: span(1, 1)}, {Volume: span(0, 0)}}
	if got, e = creep.Move(s, l, exampleDay()); e != api.OK || got[0] != (api.CreepState{Radius: span(0, 30), Volume: span(0, 1), Lost: span(0, 1)}) || got[1].Volume != exactly(0) || got[1].Lost != exactly(0) {
		t.Error(got, e)
	}
}

// P2.2
func TestMoveBeyond(t *testing.T) {
	s := example()
	s.Heats = append(s.Heats, api.CreepHeat{Warmth: 3300, Factor: span(1000, 1200)})
	for i, x := range []struct {
		pressure, warmth api.Span
		e                api.Errno
	}{
		{exactly(20000), exactly(3000), api.OK}, {exactly(6000), exactly(3300), api.OK}, {span(6000, 20000), span(3000, 3300), api.OK},
		{exactly(20001), exactly(3000), api.ErrRule}, {span(20000, 20001), exactly(3000), api.ErrRule},
		{exactly(5999), exactly(3000), api.ErrRule}, {span(5999, 6000), exactly(3000), api.ErrRule},
		{exactly(6000), exactly(2999), api.ErrRule}, {exactly(6000), span(2999, 3000), api.ErrRule},
		{exactly(6000), exactly(3301), api.ErrRule}, {exactly(6000), span(3300, 3301), api.ErrRule},
		{exactly(0), exactly(0), api.ErrRule}, {span(0, 50000), span(0, 10000), api.ErrRule},
	} {
		for cavern := range s.Caverns {
			d := exampleDay()
			d.Pressures[cavern], d.Warmths[cavern] = x.pressure, x.warmth
			if l, e := creep.Move(s, begin(t, s), d); e != x.e || (len(l) > 0) != (e == api.OK) {
				t.Error(i, cavern, l, e)
			}
		}
	}
}

// badDays returns days that the example does not have.
func badDays() map[string]api.CreepDay {
	l := map[string]api.CreepDay{"empty": {}}
	for name, change := range map[string]func(*api.CreepDay){
		"no pressures":            func(d *api.CreepDay) { d.Pressures = nil },
		"too few pressures":       func(d *api.CreepDay) { d.Pressures = d.Pressures[:1] },
		"too many pressures":      func(d *api.CreepDay) { d.Pressures = append(d.Pressures, exactly(15000)) },
		"pressure less than 0":    func(d *api.CreepDay) { d.Pressures[1].Low = -1 },
		"pressure turned":         func(d *api.CreepDay) { d.Pressures[0].Low = 12001 },
		"pressure too great":      func(d *api.CreepDay) { d.Pressures[1].High = api.CreepPressure + 1 },
		"no temperatures":         func(d *api.CreepDay) { d.Warmths = nil },
		"too few temperatures":    func(d *api.CreepDay) { d.Warmths = d.Warmths[:1] },
		"too many temperatures":   func(d *api.CreepDay) { d.Warmths = append(d.Warmths, exactly(3100)) },
		"temperature less than 0": func(d *api.CreepDay) { d.Warmths[0].Low = -1 },
		"temperature turned":      func(d *api.CreepDay) { d.Warmths[1].High = 3099 },
		"temperature too great":   func(d *api.CreepDay) { d.Warmths[1].High = api.CreepWarmth + 1 },
	} {
		d := exampleDay()
		change(&d)
		l[name] = d
	}
	return l
}

// P2.2, P2.4: a day that is not as defined is not taken, even if it is beyond a table, too.
func TestBadDays(t *testing.T) {
	s := example()
	for name, d := range badDays() {
		if l, e := creep.Move(s, begin(t, s), d); e != api.ErrArg || len(l) > 0 {
			t.Error(name, l, e)
		}
		if x, y, e := creep.Faults(s, []api.CreepDay{exampleDay(), d}); e != api.ErrArg || x != (api.CreepFault{}) || y != (api.CreepFault{}) {
			t.Error(name, x, y, e)
		}
	}
	d := exampleDay()
	d.Pressures[0], d.Pressures[1] = exactly(20001), exactly(-1)
	if l, e := creep.Move(s, begin(t, s), d); e != api.ErrArg || len(l) > 0 {
		t.Error(l, e)
	}
}

// P2.2, P2.3
func TestBadStates(t *testing.T) {
	s := example()
	change := func(name string, do func(*api.CreepState)) {
		for i := range s.Caverns {
			l := begin(t, s)
			do(&l[i])
			if got, e := creep.Move(s, l, exampleDay()); e != api.ErrArg || len(got) > 0 {
				t.Error(name, i, got, e)
			}
			if got, e := creep.Sunk(s, l, 0, 0); e != api.ErrArg || got != (api.Span{}) {
				t.Error(name, i, got, e)
			}
		}
	}
	change("Radius less than 0", func(x *api.CreepState) { x.Radius.Low = -1 })
	change("Radius turned", func(x *api.CreepState) { x.Radius = span(2, 1) })
	change("Radius too great", func(x *api.CreepState) { x.Radius.High = 2*api.CreepRadius + 1 })
	change("Volume less than 0", func(x *api.CreepState) { x.Volume.Low = -1 })
	change("Volume turned", func(x *api.CreepState) { x.Volume = span(2, 1) })
	change("Volume too great", func(x *api.CreepState) { x.Volume.High = api.CreepVolume + 1 })
	change("Lost less than 0", func(x *api.CreepState) { x.Lost.Low = -1 })
	change("Lost turned", func(x *api.CreepState) { x.Lost = span(2, 1) })
	change("Lost too great", func(x *api.CreepState) { x.Lost.High = 100*api.CreepVolume + 1 })
	for _, l := range [][]api.CreepState{nil, begin(t, s)[:1], append(begin(t, s), api.CreepState{})} {
		if got, e := creep.Move(s, l, exampleDay()); e != api.ErrArg || len(got) > 0 {
			t.Error(got, e)
		}
		if got, e := creep.Sunk(s, l, 0, 0); e != api.ErrArg || got != (api.Span{}) {
			t.Error(got, e)
		}
	}
}

// P2.2, P0.2 (walls): the states are those that the chapter says, and what is true lies within them, day by day.
func TestMoveIsTrue(t *testing.T) {
	r := rand.New(rand.NewSource(2))
	beyond := 0
	for range 1500 {
		s := small(r, 1+r.Intn(4))
		l := begin(t, s)
		var truths []truth
		for _, c := range s.Caverns {
			truths = append(truths, firstTruth(r, c))
		}
		for range 6 {
			d := someDay(r, s)
			next, e := creep.Move(s, l, d)
			if !compareMove(t, s, l, d, next, e) {
				beyond++
				break
			}
			for i := range truths {
				truths[i], _ = live(r, s, i, truths[i], some(r, d.Pressures[i]), some(r, d.Warmths[i]))
				if x := truths[i]; !in(next[i].Radius, x.radius) || !in(next[i].Volume, x.volume) || !in(next[i].Lost, x.lost) {
					t.Fatal(s, l, d, next, truths)
				}
			}
			l = next
		}
	}
	if beyond < 100 || beyond > 1400 {
		t.Error("the sites are not mixed", beyond)
	}
}

// compareMove compares what Move returned with what the chapter says, and returns whether the day is within the tables.
func compareMove(t *testing.T, s api.CreepSite, l []api.CreepState, d api.CreepDay, next []api.CreepState, e api.Errno) bool {
	t.Helper()
	var want []api.CreepState
	for i, x := range l {
		x, ok := moved(s, i, x, d.Pressures[i], d.Warmths[i])
		if !ok {
			if e != api.ErrRule || len(next) > 0 {
				t.Fatal(s, l, d, next, e)
			}
			return false
		}
		want = append(want, x)
	}
	if e != api.OK || !slices.Equal(next, want) {
		t.Fatal(s, l, d, next, want, e)
	}
	return true
}

// P2.2: no bound is wider than it must be: something true reaches each.
func TestMoveIsTight(t *testing.T) {
	r := rand.New(rand.NewSource(3))
	done := 0
	for done < 100 {
		s := small(r, 1)
		d := someDay(r, s)
		next, e := creep.Move(s, begin(t, s), d)
		if e != api.OK {
			continue
		}
		done++
		first, _ := live(r, s, 0, firstTruth(r, s.Caverns[0]), d.Pressures[0].Low, d.Warmths[0].Low)
		radius, volume, lost := exactly(first.radius), exactly(first.volume), exactly(first.lost)
		widen := func(s *api.Span, n int) { s.Low, s.High = min(s.Low, n), max(s.High, n) }
		for range 20000 {
			x, _ := live(r, s, 0, firstTruth(r, s.Caverns[0]), some(r, d.Pressures[0]), some(r, d.Warmths[0]))
			widen(&radius, x.radius)
			widen(&volume, x.volume)
			widen(&lost, x.lost)
		}
		if want := (api.CreepState{Radius: radius, Volume: volume, Lost: lost}); next[0] != want {
			t.Fatal(s, d, next, want)
		}
	}
}

// P2.7: a day that is known better never makes states wider.
func TestKnownBetter(t *testing.T) {
	r := rand.New(rand.NewSource(4))
	done := 0
	for done < 1000 {
		s := small(r, 1+r.Intn(3))
		l := begin(t, s)
		d := someDay(r, s)
		for i, c := range s.Caverns {
			d.Pressures[i] = span(max(0, c.Rock-r.Intn(s.Rows[len(s.Rows)-1].Deficit+1)), c.Rock)
		}
		wide, e := creep.Move(s, l, d)
		if e != api.OK {
			continue
		}
		done++
		for i := range s.Caverns {
			for _, x := range []*api.Span{&d.Pressures[i], &d.Warmths[i], &l[i].Volume, &l[i].Radius} {
				x.Low += r.Intn(x.High - x.Low + 1)
				x.High -= r.Intn(x.High - x.Low + 1)
			}
		}
		better, e := creep.Move(s, l, d)
		for i := range s.Caverns {
			if e != api.OK || !inside(better[i].Radius, wide[i].Radius) || !inside(better[i].Volume, wide[i].Volume) || !inside(better[i].Lost, wide[i].Lost) {
				t.Fatal(s, l, d, wide, better, e)
			}
		}
	}
}

// P2.7: a volume that is lost is volume that was there.
func TestLostWasThere(t *testing.T) {
	r := rand.New(rand.NewSource(5))
	for range 1000 {
		s := small(r, 2)
		first := begin(t, s)
		l := first
		for range 8 {
			next, e := creep.Move(s, l, someDay(r, s))
			if e != api.OK {
				break
			}
			for i, x := range next {
				if x.Lost.Low-l[i].Lost.Low > l[i].Volume.Low || x.Lost.High-l[i].Lost.High > l[i].Volume.High || x.Volume.Low < 0 ||
					x.Volume.Low+x.Lost.High < first[i].Volume.Low || x.Volume.High+x.Lost.Low > first[i].Volume.High {
					t.Fatal(s, l, next)
				}
			}
			l = next
		}
	}
}

// P2.3
func TestSunk(t *testing.T) {
	s := example()
	l, _ := creep.Move(s, begin(t, s), exampleDay())
	if got, e := creep.Sunk(s, l, 40, 0); e != api.OK || got != span(0, 2) {
		t.Error(got, e)
	}
	lost := func(a, b api.Span) []api.CreepState {
		l := begin(t, s)
		l[0].Lost, l[1].Lost = a, b
		return l
	}
	million := lost(span(1000000, 2000000), span(3000000, 3000000))
	part := lost(span(1999999, 2000001), span(999999, 1000001))
	for i, x := range []struct {
		l    []api.CreepState
		x, y int
		want api.Span
	}{
		{begin(t, s), 0, 0, span(0, 0)},
		// 50 and 51 metres from the first cavern, and as much from the second
		{million, 50, 0, span(900+2700, 2000+3000)},
		{million, 51, 0, span(100+2700, 400+3000)},
		{million, 49, 0, span(900+300, 2000+600)},
		{million, -30, 40, span(900+300, 2000+600)},
		{million, -30, -41, span(100+300, 400+600)},
		// 150 metres away, and just more
		{million, -50, 0, span(900+300, 2000+600)},
		{million, -51, 0, span(100, 400)},
		{million, -150, 0, span(100, 400)},
		{million, -151, 0, span(0, 0)},
		{million, 0, -150, span(100, 400)},
		{million, -1, -150, span(0, 0)},
		{million, 90, 120, span(100+300, 400+600)},
		{million, api.CreepPlace, -api.CreepPlace, span(0, 0)},
		// each is rounded for itself: 1799.9 and 899.9, 2000.001 and 1000.001; with the second ring 199.9 and 99.9, 400.0002 and 200.0002
		{part, 50, 0, span(1799+899, 2001+1001)},
		{part, 50, 140, span(199+99, 401+201)},
	} {
		if got, e := creep.Sunk(s, x.l, x.x, x.y); e != api.OK || got != x.want {
			t.Error(i, got, e)
		}
	}
	s.Rings = nil
	if got, e := creep.Sunk(s, million, 0, 0); e != api.OK || got != (api.Span{}) {
		t.Error(got, e)
	}
	most, states, _ := greatest()
	if got, e := creep.Sunk(most, states, -api.CreepPlace, -api.CreepPlace); e != api.OK || got != exactly(5*100*api.CreepVolume) {
		t.Error(got, e)
	}
	zero := example()
	zero.Rings = []api.CreepRing{{Away: 0, Share: span(1, 1)}}
	if got, e := creep.Sunk(zero, million, 100, 0); e != api.OK || got != exactly(3) {
		t.Error(got, e)
	}
}

// P2.3
func TestSunkOfNoPlace(t *testing.T) {
	s := example()
	for _, x := range [][2]int{{api.CreepPlace + 1, 0}, {-api.CreepPlace - 1, 0}, {0, api.CreepPlace + 1}, {0, -api.CreepPlace - 1}} {
		if got, e := creep.Sunk(s, begin(t, s), x[0], x[1]); e != api.ErrArg || got != (api.Span{}) {
			t.Error(x, got, e)
		}
	}
}

// P2.3: the subsidence is what the chapter says, and whatever is true of states and shares lies between its bounds.
func TestSunkIsTrue(t *testing.T) {
	r := rand.New(rand.NewSource(6))
	for range 2000 {
		s := small(r, 1+r.Intn(4))
		l := begin(t, s)
		for i := range l {
			l[i].Lost = someSpan(r, 3000)
		}
		x, y := r.Intn(13)-6, r.Intn(13)-6
		got, e := creep.Sunk(s, l, x, y)
		if e != api.OK || got != sunkAt(s, l, x, y) {
			t.Fatal(s, l, x, y, got, e)
		}
		sum := 0
		for i, c := range s.Caverns {
			sum += some(r, l[i].Lost) * some(r, shareAt(s, c, x, y))
		}
		if sum < got.Low*1e6 || sum > got.High*1e6 {
			t.Fatal(s, l, x, y, got, sum)
		}
	}
}
