package creep_test

import (
	"math/rand"
	"slices"
	"testing"

	"saltdome/api"
	"saltdome/creep"
)

// P2.1
func TestCheck(t *testing.T) {
	most, _, _ := greatest()
	bare := example()
	bare.Rings, bare.Houses, bare.Rows, bare.Heats, bare.Caverns = nil, nil, bare.Rows[:1], bare.Heats[:1], bare.Caverns[:1]
	least := bare
	least.Rows, least.Heats = []api.CreepRow{{}}, []api.CreepHeat{{}}
	least.Caverns, least.Wall = []api.CreepCavern{{X: -api.CreepPlace, Y: -api.CreepPlace}}, 0
	for i, s := range []api.CreepSite{example(), most, bare, least} {
		if e := creep.Check(s); e != api.OK {
			t.Error(i, e)
		}
	}
}

// P2.1 to P2.6: no function takes a site that is not as defined.
func TestBadSites(t *testing.T) {
	for f, e := range errorsOf(example()) {
		if e != api.OK {
			t.Error(f, e)
		}
	}
	for _, x := range badSites() {
		s := example()
		x.change(&s)
		for f, e := range errorsOf(s) {
			if e != api.ErrArg {
				t.Errorf("%s: %s returns the error %d", x.name, f, e)
			}
		}
	}
}

// P2.1
func TestThick(t *testing.T) {
	s := example()
	s.Caverns = append(s.Caverns, api.CreepCavern{X: 1, Y: 1, Radius: span(1000, 1500)})
	for i, x := range []struct {
		i, j int
		want api.Span
	}{
		{0, 1, span(38500, 40000)},
		{1, 0, span(38500, 40000)},
		// the root of 2000000 is 1414.2, that of 99 99 1000 1000 and 1000000 is 99005.05
		{0, 2, span(1414-31000-1500, 1414-30000-1000)},
		{2, 1, span(99005-30500-1500, 99005-30000-1000)},
	} {
		if got, e := creep.Thick(s, x.i, x.j); e != api.OK || got != x.want {
			t.Error(i, got, e)
		}
	}
	for _, x := range [][2]int{{0, 0}, {2, 2}, {-1, 0}, {0, -1}, {3, 0}, {0, 3}} {
		if got, e := creep.Thick(s, x[0], x[1]); e != api.ErrArg || got != (api.Span{}) {
			t.Error(x, got, e)
		}
	}
}

// P2.1: the greatest distance, and others whose squares are just squares, or not.
func TestDistances(t *testing.T) {
	s := example()
	s.Caverns[0] = api.CreepCavern{X: -api.CreepPlace, Y: -api.CreepPlace}
	s.Caverns[1] = api.CreepCavern{X: api.CreepPlace, Y: api.CreepPlace}
	if got, e := creep.Thick(s, 0, 1); e != api.OK || got != exactly(28284271) {
		t.Error(got, e)
	}
	r := rand.New(rand.NewSource(1))
	for range 2000 {
		most := 1 + r.Intn(api.CreepPlace)
		for i := range s.Caverns {
			s.Caverns[i].X, s.Caverns[i].Y = r.Intn(2*most+1)-most, r.Intn(2*most+1)-most
		}
		want := distance(s.Caverns[0], s.Caverns[1])
		if got, e := creep.Thick(s, 0, 1); want > 0 && (e != api.OK || got != exactly(want)) {
			t.Fatal(s.Caverns, got, e)
		}
	}
}

// P2.1
func TestBegin(t *testing.T) {
	want := []api.CreepState{
		{Radius: span(30000, 31000), Volume: span(400000, 410000)},
		{Radius: span(30000, 30500), Volume: span(300000, 300000)},
	}
	if l, e := creep.Begin(example()); e != api.OK || !slices.Equal(l, want) {
		t.Error(l, e)
	}
	s := example()
	s.Wall = -1
	if l, e := creep.Begin(s); e != api.ErrArg || len(l) > 0 {
		t.Error(l, e)
	}
}
