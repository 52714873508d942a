package leach_test

import (
	"iter"
	"math/rand"
	"slices"
	"testing"

	"saltdome/api"
	"saltdome/leach"
)

func span(low, high int) api.Span { return api.Span{Low: low, High: high} }

func in(s api.Span, n int) bool { return s.Low <= n && n <= s.High }

// example returns the cavern c of the chapter.
func example() api.LeachCavern {
	return api.LeachCavern{Hold: 100, Oil: 700000, Slices: []api.LeachSlice{
		{Volume: span(900000, 1000000), Open: 1200, Fall: 100, Rate: span(20, 40), Most: 1480000},
		{Volume: span(1000000, 1000000), Open: 1100, Fall: 50, Rate: span(30, 50), Most: 3000000},
		{Volume: span(500000, 600000), Open: 1000, Fall: 0, Rate: span(40, 60), Most: 3000000},
	}}
}

// stageA and stageB return the stages of the chapter.
func stageA() api.LeachStage { return api.LeachStage{Water: 10, In: 0, Out: 1, Blanket: 2} }
func stageB() api.LeachStage { return api.LeachStage{Water: 10, In: 2, Out: 0, Blanket: 3} }

// greatest returns a cavern and a stage in which every number is as great as it can be.
func greatest() (api.LeachCavern, api.LeachStage) {
	c := api.LeachCavern{Hold: api.LeachRate, Oil: api.LeachVolume}
	for range api.LeachSlices {
		c.Slices = append(c.Slices, api.LeachSlice{Volume: span(0, api.LeachVolume), Open: api.LeachOpen, Fall: api.LeachOpen - 1, Rate: span(0, api.LeachRate), Most: api.LeachVolume})
	}
	return c, api.LeachStage{Water: api.LeachWater, In: 0, Out: api.LeachSlices - 1, Blanket: api.LeachSlices}
}

func copyCavern(c api.LeachCavern) api.LeachCavern {
	c.Slices = slices.Clone(c.Slices)
	return c
}

func equalCaverns(c, d api.LeachCavern) bool {
	return c.Hold == d.Hold && c.Oil == d.Oil && slices.Equal(c.Slices, d.Slices)
}

// small returns a cavern with few truths.
func small(r *rand.Rand, n int) api.LeachCavern {
	c := api.LeachCavern{Hold: 1 + r.Intn(9), Oil: r.Intn(12000)}
	for range n {
		low, rate, open := r.Intn(5000), r.Intn(4), 1000+r.Intn(2001)
		c.Slices = append(c.Slices, api.LeachSlice{Volume: span(low, low+r.Intn(2)*r.Intn(3000)), Open: open, Fall: r.Intn(open), Rate: span(rate, rate+r.Intn(3)), Most: 5000 + r.Intn(40000)})
	}
	return c
}

// smallStages returns stages of a cavern with n slices.
func smallStages(r *rand.Rand, n, stages int) []api.LeachStage {
	var l []api.LeachStage
	for range stages {
		s := api.LeachStage{Water: 1 + r.Intn(3), In: r.Intn(n), Out: r.Intn(n - 1)}
		if s.Out >= s.In {
			s.Out++
		}
		s.Blanket = min(n, max(s.In, s.Out)+r.Intn(6)/5+r.Intn(2))
		l = append(l, s)
	}
	return l
}

// choices goes through all lists that have a number of each span; a list is valid until the next one comes.
func choices(spans []api.Span) iter.Seq[[]int] {
	return func(yield func([]int) bool) {
		l := make([]int, len(spans))
		for i, s := range spans {
			l[i] = s.Low
		}
		for yield(l) {
			i := 0
			for i < len(l) && l[i] == spans[i].High {
				l[i] = spans[i].Low
				i++
			}
			if i == len(l) {
				return
			}
			l[i]++
		}
	}
}

// truths goes through all truths of a cavern with some stages whose volumes are the least or the greatest ones.
func truths(c api.LeachCavern, stages int) iter.Seq[api.LeachTruth] {
	n := len(c.Slices)
	var spans []api.Span
	for range n {
		spans = append(spans, span(0, 1))
	}
	for range stages {
		for _, s := range c.Slices {
			spans = append(spans, s.Rate)
		}
	}
	return func(yield func(api.LeachTruth) bool) {
		for l := range choices(spans) {
			var t api.LeachTruth
			for i, s := range c.Slices {
				t.Volumes = append(t.Volumes, s.Volume.Low+l[i]*(s.Volume.High-s.Volume.Low))
			}
			for k := range stages {
				t.Rates = append(t.Rates, l[n*(k+1):n*(k+2)])
			}
			if !yield(t) {
				return
			}
		}
	}
}

// taken returns what a stage takes from each slice, cubic metre by cubic metre, as the chapter says it.
func taken(c api.LeachCavern, s api.LeachStage, rates []int) []int {
	l := make([]int, len(c.Slices))
	for range s.Water {
		held := 0
		for i := s.In; ; {
			litres := rates[i]
			if litres > c.Hold-held {
				litres = c.Hold - held
			}
			l[i] += litres
			held += litres
			if i == s.Out {
				break
			}
			if s.In < s.Out {
				i++
			} else {
				i--
			}
		}
	}
	return l
}

// truly returns the volumes and the sump behind some stages.
func truly(c api.LeachCavern, stages []api.LeachStage, t api.LeachTruth) ([]int, int) {
	volumes, sump := slices.Clone(t.Volumes), 0
	for k, s := range stages {
		for i, litres := range taken(c, s, t.Rates[k]) {
			volumes[i] += litres * c.Slices[i].Open
			sump += litres * c.Slices[i].Fall
		}
	}
	return volumes, sump
}

// seen is a span of all numbers that were seen.
type seen struct {
	api.Span
	any bool
}

func (s *seen) see(n int) {
	if !s.any {
		s.Span, s.any = span(n, n), true
	}
	s.Low, s.High = min(s.Low, n), max(s.High, n)
}

// sliceChange is a change of the first slice of the example.
type sliceChange func(*api.LeachSlice)

// badCavern is a change that makes the example a cavern that is not as defined.
type badCavern struct {
	name   string
	change func(*api.LeachCavern)
}

func badCaverns() []badCavern {
	l := []badCavern{
		{"no slices", func(c *api.LeachCavern) { c.Slices = nil }},
		{"too many slices", func(c *api.LeachCavern) {
			for len(c.Slices) <= api.LeachSlices {
				c.Slices = append(c.Slices, c.Slices[0])
			}
		}},
		{"Hold 0", func(c *api.LeachCavern) { c.Hold = 0 }},
		{"Hold too great", func(c *api.LeachCavern) { c.Hold = api.LeachRate + 1 }},
		{"Oil less than 0", func(c *api.LeachCavern) { c.Oil = -1 }},
		{"Oil too great", func(c *api.LeachCavern) { c.Oil = api.LeachVolume + 1 }},
	}
	for name, change := range map[string]sliceChange{
		"Volume less than 0":    func(s *api.LeachSlice) { s.Volume = span(-1, 5) },
		"Volume turned":         func(s *api.LeachSlice) { s.Volume = span(6, 5) },
		"Volume too great":      func(s *api.LeachSlice) { s.Volume = span(0, api.LeachVolume+1) },
		"Open too small":        func(s *api.LeachSlice) { s.Open = 999 },
		"Open too great":        func(s *api.LeachSlice) { s.Open = api.LeachOpen + 1 },
		"Fall less than 0":      func(s *api.LeachSlice) { s.Fall = -1 },
		"Fall as great as Open": func(s *api.LeachSlice) { s.Fall = s.Open },
		"Rate less than 0":      func(s *api.LeachSlice) { s.Rate = span(-1, 5) },
		"Rate turned":           func(s *api.LeachSlice) { s.Rate = span(6, 5) },
		"Rate too great":        func(s *api.LeachSlice) { s.Rate = span(0, api.LeachRate+1) },
		"Most less than 0":      func(s *api.LeachSlice) { s.Most = -1 },
		"Most too great":        func(s *api.LeachSlice) { s.Most = api.LeachVolume + 1 },
	} {
		for i := range example().Slices {
			l = append(l, badCavern{name, func(c *api.LeachCavern) { change(&c.Slices[i]) }})
		}
	}
	return l
}

// badStages returns stages that the example does not have.
func badStages() map[string]api.LeachStage {
	return map[string]api.LeachStage{
		"no water":              {Water: 0, In: 0, Out: 1, Blanket: 2},
		"too much water":        {Water: api.LeachWater + 1, In: 0, Out: 1, Blanket: 2},
		"In less than 0":        {Water: 1, In: -1, Out: 1, Blanket: 2},
		"In too great":          {Water: 1, In: 3, Out: 1, Blanket: 3},
		"Out less than 0":       {Water: 1, In: 0, Out: -1, Blanket: 2},
		"Out too great":         {Water: 1, In: 0, Out: 3, Blanket: 3},
		"one slice":             {Water: 1, In: 1, Out: 1, Blanket: 2},
		"Blanket less than 0":   {Water: 1, In: 0, Out: 1, Blanket: -1},
		"Blanket above the top": {Water: 1, In: 0, Out: 1, Blanket: 4},
	}
}

// errorsOf calls every function that has a cavern, and one stage, wherever it has stages.
func errorsOf(c api.LeachCavern, s api.LeachStage) map[string]api.Errno {
	stages, want, rates := []api.LeachStage{s}, make([]int, len(c.Slices)), make([]int, len(c.Slices))
	t := api.LeachTruth{Volumes: make([]int, len(c.Slices))}
	for i, x := range c.Slices {
		t.Volumes[i], rates[i] = x.Volume.Low, x.Rate.Low
	}
	t.Rates = [][]int{rates}
	l := map[string]api.Errno{}
	_, l["Rates"] = leach.Rates(c, s)
	_, l["After"] = leach.After(c, stages)
	_, l["Bound"] = leach.Bound(c, stages, want, 0)
	_, l["Play"] = leach.Play(c, stages, t)
	_, _, l["Grade"] = leach.Grade(c, s)
	_, _, _, l["Fault"] = leach.Fault(c, stages)
	_, l["Plan"] = leach.Plan(c, stages, want)
	_, l["Least"] = leach.Least(c, stages, want)
	return l
}

// expect fails if one of some errors is another one.
func expect(t *testing.T, name string, l map[string]api.Errno, want api.Errno) {
	t.Helper()
	for f, e := range l {
		if e != want {
			t.Errorf("%s: %s returns the error %d", name, f, e)
		}
	}
}
