package creep_test

import (
	"math/rand"
	"testing"

	"saltdome/api"
	"saltdome/creep"
)

// longest returns what Longest says of arguments that are as defined.
func longest(t *testing.T, s api.CreepSite, cavern int, pressure, warmth api.Span) int {
	t.Helper()
	n, e := creep.Longest(s, cavern, pressure, warmth)
	if e != api.OK {
		t.Fatal(s, cavern, pressure, warmth, e)
	}
	return n
}

// P2.5
func TestKeepExamples(t *testing.T) {
	s := example()
	if n := longest(t, s, 0, span(10000, 12000), exactly(3100)); n != 2 {
		t.Error(n)
	}
	if n := longest(t, s, 0, exactly(12000), exactly(3100)); n != 8 {
		t.Error(n)
	}
	if p, e := creep.Least(s, 0, exactly(3100), 2); e != api.OK || p != 6000 {
		t.Error(p, e)
	}
}

// P2.5
func TestLongest(t *testing.T) {
	low, cold := exactly(8000), exactly(3000)
	for name, x := range map[string]struct {
		change           func(*api.CreepSite)
		cavern           int
		pressure, warmth api.Span
		want             int
	}{
		"as long as can be":             {asIs, 0, exactly(12000), cold, api.CreepDays},
		"until the wall is too thin":    {func(s *api.CreepSite) { s.Wall = 39940 }, 0, low, cold, 3},
		"a day less":                    {func(s *api.CreepSite) { s.Wall = 39941 }, 0, low, cold, 2},
		"both walls count":              {func(s *api.CreepSite) { s.Wall = 39941 }, 2, low, cold, 2},
		"the thinner wall counts":       {func(s *api.CreepSite) { s.Wall = 19980; s.Caverns[2].X = 180 }, 1, low, cold, 1},
		"another's greatest radius":     {func(s *api.CreepSite) { s.Wall = 39920; s.Caverns[0].Radius.High = 30041 }, 1, low, cold, 1},
		"walls of others are no fault":  {func(s *api.CreepSite) { s.Wall = 39941; s.Caverns[2].X = 150 }, 0, low, cold, 2},
		"too thin from the start":       {func(s *api.CreepSite) { s.Wall = 40001 }, 0, exactly(12000), cold, 0},
		"until the volume is too small": {func(s *api.CreepSite) { s.Caverns[0].Floor = 99700 }, 0, low, cold, 3},
		"a day less of volume":          {func(s *api.CreepSite) { s.Caverns[0].Floor = 99701 }, 0, low, cold, 2},
		"in heat":                       {func(s *api.CreepSite) { s.Caverns[0].Floor = 99700 }, 0, low, span(3000, 3001), 1},
		"too small from the start":      {func(s *api.CreepSite) { s.Caverns[0].Floor = 100001 }, 0, exactly(12000), cold, 0},
		"the volume of another":         {func(s *api.CreepSite) { s.Caverns[1].Floor = 100001 }, 0, exactly(12000), cold, api.CreepDays},
		"houses are no matter":          {func(s *api.CreepSite) { s.Houses[0] = api.CreepHouse{} }, 0, low, cold, api.CreepDays},
		"changes are no matter":         {func(s *api.CreepSite) { s.Caverns[0].Change = 0 }, 0, span(9000, 20000), cold, api.CreepDays},
		"just in the gate":              {func(s *api.CreepSite) { s.Caverns[0].Gate = span(11000, 12000) }, 0, span(11000, 12000), cold, api.CreepDays},
		"partly below the gate":         {func(s *api.CreepSite) { s.Caverns[0].Gate = span(11001, 12000) }, 0, span(11000, 12000), cold, 0},
		"partly above the gate":         {func(s *api.CreepSite) { s.Caverns[0].Gate = span(11000, 11999) }, 0, span(11000, 12000), cold, 0},
		"the gate of another":           {func(s *api.CreepSite) { s.Caverns[0].Gate = span(0, 0) }, 1, exactly(12000), cold, api.CreepDays},
		"above the rock's pressure":     {func(s *api.CreepSite) { s.Caverns[0].Gate.High = 30000 }, 0, span(20000, 20001), cold, 0},
		"below the last deficit":        {asIs, 0, span(7999, 8000), cold, 0},
		"too cold":                      {asIs, 0, exactly(12000), span(2999, 3000), 0},
		"too hot":                       {asIs, 0, exactly(12000), span(3100, 3101), 0},
	} {
		s := calm()
		for i := range s.Caverns {
			s.Caverns[i].Gate = span(0, 20000)
		}
		x.change(&s)
		if n := longest(t, s, x.cavern, x.pressure, x.warmth); n != x.want {
			t.Error(name, n)
		}
	}
}

// P2.5
func TestLeast(t *testing.T) {
	cold := exactly(3000)
	for name, x := range map[string]struct {
		change func(*api.CreepSite)
		warmth api.Span
		days   int
		want   int
		e      api.Errno
	}{
		"the last deficit":        {asIs, cold, 60, 8000, api.OK},
		"without spall":           {func(s *api.CreepSite) { s.Wall = 40000 }, cold, 1, 11000, api.OK},
		"with two days of spall":  {func(s *api.CreepSite) { s.Wall = 39960 }, cold, 2, 8000, api.OK},
		"not with three":          {func(s *api.CreepSite) { s.Wall = 39960 }, cold, 3, 11000, api.OK},
		"the gate":                {func(s *api.CreepSite) { s.Caverns[1].Gate = span(9500, 20000) }, cold, 1, 9500, api.OK},
		"just at the gate's end":  {func(s *api.CreepSite) { s.Wall = 40000; s.Caverns[1].Gate = span(0, 11000) }, cold, 1, 11000, api.OK},
		"beyond the gate's end":   {func(s *api.CreepSite) { s.Wall = 40000; s.Caverns[1].Gate = span(0, 10999) }, cold, 1, 0, api.ErrNone},
		"the gate below the rows": {func(s *api.CreepSite) { s.Caverns[1].Gate = span(0, 7999) }, cold, 1, 0, api.ErrNone},
		"the gate above the rock": {func(s *api.CreepSite) { s.Caverns[1].Gate = span(20001, 30000) }, cold, 1, 0, api.ErrNone},
		"the gate at the rock":    {func(s *api.CreepSite) { s.Caverns[1].Gate = span(20000, 30000) }, cold, 1, 20000, api.OK},
		"at no pressure":          {func(s *api.CreepSite) { s.Caverns[1].Rock = 12000 }, cold, 60, 0, api.OK},
		"too thin from the start": {func(s *api.CreepSite) { s.Wall = 40001 }, cold, 1, 0, api.ErrNone},
		"too hot":                 {asIs, span(3000, 3101), 1, 0, api.ErrNone},
		"for no days, whatever":   {func(s *api.CreepSite) { s.Wall = 40001; s.Caverns[1].Gate.Low = 9 }, span(3000, 3101), 0, 0, api.OK},
	} {
		s := calm()
		x.change(&s)
		if p, e := creep.Least(s, 1, x.warmth, x.days); e != x.e || p != x.want {
			t.Error(name, p, e)
		}
	}
}

// P2.5
func TestKeepErrors(t *testing.T) {
	s := calm()
	bad := calm()
	bad.Wall = -1
	p, w := exactly(12000), exactly(3000)
	for i, x := range []struct {
		s                api.CreepSite
		cavern           int
		pressure, warmth api.Span
	}{
		{bad, 0, p, w}, {s, -1, p, w}, {s, 3, p, w},
		{s, 0, span(-1, 5), w}, {s, 0, span(6, 5), w}, {s, 0, span(0, api.CreepPressure+1), w},
		{s, 0, p, span(-1, 5)}, {s, 0, p, span(6, 5)}, {s, 0, p, span(0, api.CreepWarmth+1)},
	} {
		if n, e := creep.Longest(x.s, x.cavern, x.pressure, x.warmth); e != api.ErrArg || n != 0 {
			t.Error(i, n, e)
		}
		if n, e := creep.Least(x.s, x.cavern, x.warmth, api.CreepDays); x.pressure == p && (e != api.ErrArg || n != 0) {
			t.Error(i, n, e)
		}
	}
	if n, e := creep.Least(s, 0, w, -1); e != api.ErrArg || n != 0 {
		t.Error(n, e)
	}
	if n, e := creep.Least(bad, -1, w, api.CreepDays+1); e != api.ErrLong || n != 0 {
		t.Error(n, e)
	}
	if n, e := creep.Longest(s, 0, exactly(api.CreepPressure), exactly(api.CreepWarmth)); e != api.OK || n != 0 {
		t.Error(n, e)
	}
}

// keptAsSaid returns for how long a cavern can be kept, as the chapter says it.
func keptAsSaid(s api.CreepSite, i int, pressure, warmth api.Span) int {
	c := s.Caverns[i]
	x, known := api.CreepState{Radius: c.Radius, Volume: c.Volume}, true
	for n := range api.CreepDays {
		x, known = moved(s, i, x, pressure, warmth)
		wrong := !known || !inside(pressure, c.Gate) || x.Volume.Low < c.Floor
		for j, d := range s.Caverns {
			wrong = wrong || i != j && distance(c, d)-x.Radius.High-d.Radius.High < s.Wall
		}
		if wrong {
			return n
		}
	}
	return api.CreepDays
}

// P2.5: what is returned is what the chapter says; at any greater pressure up to the gate's end and the rock's a cavern can be kept as long, at any lesser one it cannot.
func TestKeepIsTrue(t *testing.T) {
	r := rand.New(rand.NewSource(8))
	short, none := 0, 0
	for range 1500 {
		s := small(r, 1+r.Intn(3))
		i, d := r.Intn(len(s.Caverns)), someDay(r, s)
		n := longest(t, s, i, d.Pressures[i], d.Warmths[i])
		if want := keptAsSaid(s, i, d.Pressures[i], d.Warmths[i]); n != want {
			t.Fatal(s, i, d, n, want)
		}
		if n > 0 && n < api.CreepDays {
			short++
		}
		days := 1 + r.Intn(8)
		least, e := creep.Least(s, i, d.Warmths[i], days)
		if e == api.ErrNone && least == 0 {
			none++
			least = 100
		} else if e != api.OK {
			t.Fatal(s, i, d, least, e)
		}
		c := s.Caverns[i]
		for p := range 60 {
			possible := p >= least && p <= min(c.Gate.High, c.Rock)
			if kept := longest(t, s, i, exactly(p), d.Warmths[i]) >= days; kept != possible {
				t.Fatal(s, i, d, days, least, p, kept)
			}
		}
	}
	if short < 100 || none < 100 || none > 1000 {
		t.Error("the sites are not mixed", short, none)
	}
}
