package well_test

import (
	"math"
	"math/rand"
	"reflect"
	"slices"

	"saltdome/api"
)

// example returns the well e of the chapter.
func example() api.Well {
	return api.Well{Rooms: 5, Need: 2, Parts: []api.WellPart{
		{One: 0, Other: 2, Valve: true, Tested: 100, Valid: 180, Test: 2, Change: 30},
		{One: 2, Other: 4, Valve: true, Tested: 100, Valid: 90, Test: 1, Change: 10},
		{One: 4, Other: 1, Valve: true, Tested: 150, Valid: 365, Test: 1, Change: 10},
		{One: 0, Other: 3, Tested: 0, Valid: 1000, Test: 5, Change: 90},
		{One: 3, Other: 1, Tested: 0, Valid: 1000, Test: 5, Change: 60},
		{One: 2, Other: 3, Tested: 0, Valid: 300, Test: 5, Change: 80},
	}}
}

// The day of the plain parts: they are old, or good, on it.
const (
	today    = 10
	oldSince = 9
)

// part returns a valve that is shut and good today.
func part(one, other int) api.WellPart {
	return api.WellPart{One: one, Other: other, Valve: true, Tested: today, Test: 2, Change: 5}
}

func opened(p api.WellPart) api.WellPart {
	p.Open = true
	return p
}

func aged(p api.WellPart) api.WellPart {
	p.Tested = oldSince
	return p
}

func broken(p api.WellPart) api.WellPart {
	p.Bad = true
	return p
}

func wall(p api.WellPart) api.WellPart {
	p.Valve = false
	return p
}

func costing(test, change int, p api.WellPart) api.WellPart {
	p.Test, p.Change = test, change
	return p
}

func wellOf(rooms, need int, parts ...api.WellPart) api.Well {
	return api.Well{Rooms: rooms, Need: need, Parts: parts}
}

// copied returns a well that shares no memory with another one.
func copied(w api.Well) api.Well {
	w.Parts = slices.Clone(w.Parts)
	return w
}

func same(a, b api.Well) bool {
	return a.Rooms == b.Rooms && a.Need == b.Need && slices.Equal(a.Parts, b.Parts)
}

func isZero(w api.Well) bool { return w.Rooms == 0 && w.Need == 0 && len(w.Parts) == 0 }

func op(kind api.WellKind, part int) api.WellOp { return api.WellOp{Kind: kind, Part: part} }

// ops returns all operations on the parts of a well, by their kinds and then by their parts.
func ops(w api.Well) []api.WellOp {
	var l []api.WellOp
	for kind := api.WellOpen; kind <= api.WellChange; kind++ {
		for i := range w.Parts {
			l = append(l, op(kind, i))
		}
	}
	return l
}

// isOld and isGood are what the chapter says of a part on a day.
func isOld(p api.WellPart, day int) bool { return !p.Bad && day > p.Tested+p.Valid }

func isGood(p api.WellPart, day int) bool { return !p.Bad && !isOld(p, day) }

func isTight(p api.WellPart, day int) bool { return isGood(p, day) && !p.Open }

// tightOn returns how many parts of a list are tight.
func tightOn(w api.Well, day int, list []int) int {
	n := 0
	for _, i := range list {
		if isTight(w.Parts[i], day) {
			n++
		}
	}
	return n
}

// lists returns all lists of parts that lead from the gas to a room and come to no room twice, in lexicographic order.
func lists(w api.Well, to int) [][]int {
	var all [][]int
	var list []int
	been := map[int]bool{}
	var from func(int)
	from = func(room int) {
		if room == to {
			all = append(all, slices.Clone(list))
			return
		}
		been[room] = true
		for i, p := range w.Parts {
			other := p.Other
			if p.Other == room {
				other = p.One
			} else if p.One != room {
				continue
			}
			if !been[other] {
				list = append(list, i)
				from(other)
				list = list[:len(list)-1]
			}
		}
		been[room] = false
	}
	from(0)
	return all
}

// distanceAsSaid returns the least number of tight parts on the way to a room; -1, if there is no way.
func distanceAsSaid(w api.Well, day, room int) int {
	least := -1
	for _, l := range lists(w, room) {
		if n := tightOn(w, day, l); least < 0 || n < least {
			least = n
		}
	}
	return least
}

func numberAsSaid(w api.Well, day int) int {
	if n := distanceAsSaid(w, day, 1); n >= 0 {
		return n
	}
	return len(w.Parts) + 1
}

// canAsSaid reports whether an operation can be done on a part.
func canAsSaid(p api.WellPart, day int, kind api.WellKind) bool {
	switch kind {
	case api.WellOpen:
		return p.Valve && !p.Open
	case api.WellClose:
		return p.Valve && p.Open
	case api.WellTest:
		return !p.Open && isOld(p, day)
	}
	return !p.Open
}

// doAsSaid returns what the chapter says of an operation.
func doAsSaid(w api.Well, day int, o api.WellOp, passes bool) (api.Well, int, api.Errno) {
	behind := copied(w)
	p := &behind.Parts[o.Part]
	if !canAsSaid(*p, day, o.Kind) {
		return api.Well{}, 0, api.ErrState
	}
	enough, cost := min(w.Need, numberAsSaid(w, day)), 1
	switch o.Kind {
	case api.WellOpen, api.WellClose:
		p.Open = o.Kind == api.WellOpen
	case api.WellTest:
		cost = p.Test
		if p.Bad = !passes; passes {
			p.Tested = day
		}
	case api.WellChange:
		cost = p.Change
		p.Bad = true
		if numberAsSaid(behind, day) < enough {
			return api.Well{}, 0, api.ErrRule
		}
		p.Tested, p.Bad = day, false
	}
	if numberAsSaid(behind, day) < enough {
		return api.Well{}, 0, api.ErrRule
	}
	return behind, cost, api.OK
}

func metAsSaid(w api.Well, day int, goal []api.WellWant) bool {
	for _, want := range goal {
		if p := w.Parts[want.Part]; p.Open != want.Open || want.Good && !isGood(p, day) {
			return false
		}
	}
	return true
}

// somePart returns a part of any condition today.
func somePart(r *rand.Rand, one, other int) api.WellPart {
	p := api.WellPart{One: one, Other: other, Valve: r.Intn(4) > 0, Bad: r.Intn(5) == 0, Test: 1 + r.Intn(5), Change: 1 + r.Intn(20)}
	p.Open = p.Valve && r.Intn(4) == 0
	p.Tested, p.Valid = r.Intn(today), r.Intn(2*today)
	return p
}

// someWell returns a well whose parts lie anywhere.
func someWell(r *rand.Rand, rooms, parts int) api.Well {
	w := api.Well{Rooms: rooms, Need: r.Intn(4)}
	for range parts {
		one := r.Intn(rooms)
		w.Parts = append(w.Parts, somePart(r, one, (one+1+r.Intn(rooms-1))%rooms))
	}
	return w
}

// ladder returns a well with two ways that are both some parts long, and parts across; all that is cut is left out.
func ladder(r *rand.Rand, parts int) api.Well {
	ends := [][2]int{{0, 2}, {2, 1}, {0, 3}, {3, 1}, {2, 3}, {0, 2}, {2, 4}, {4, 1}, {5, 3}, {0, 5}, {4, 5}, {3, 1}}
	w := api.Well{Rooms: 6, Need: r.Intn(3)}
	for _, e := range ends[:parts] {
		w.Parts = append(w.Parts, somePart(r, e[r.Intn(2)], 0))
		p := &w.Parts[len(w.Parts)-1]
		p.Other = e[0] + e[1] - p.One
	}
	return w
}

// someGoal returns a goal for a well.
func someGoal(r *rand.Rand, w api.Well) []api.WellWant {
	var goal []api.WellWant
	for i := range w.Parts {
		if r.Intn(2) == 0 {
			goal = append(goal, api.WellWant{Part: i, Open: w.Parts[i].Valve && r.Intn(2) == 0 || r.Intn(30) == 0, Good: r.Intn(2) == 0})
		}
	}
	return goal
}

// badWell is a well that is not as defined, made of the example.
type badWell struct {
	name   string
	change func(*api.Well)
}

func badWells() []badWell {
	return []badWell{
		{"no well", func(w *api.Well) { *w = api.Well{} }},
		{"one room", func(w *api.Well) { w.Rooms = 1 }},
		{"rooms less than 0", func(w *api.Well) { w.Rooms = math.MinInt }},
		{"too few rooms for the parts", func(w *api.Well) { w.Rooms = 4 }},
		{"too many rooms", func(w *api.Well) { w.Rooms = api.WellRooms + 1 }},
		{"a need less than 0", func(w *api.Well) { w.Need = -1 }},
		{"too great a need", func(w *api.Well) { w.Need = api.WellParts + 1 }},
		{"no parts", func(w *api.Well) { w.Parts = nil }},
		{"a room less than 0", func(w *api.Well) { w.Parts[0].One = -1 }},
		{"a room that there is not", func(w *api.Well) { w.Parts[5].One = 5 }},
		{"another room less than 0", func(w *api.Well) { w.Parts[5].Other = -1 }},
		{"another room that there is not", func(w *api.Well) { w.Parts[0].Other = 5 }},
		{"a part between a room and itself", func(w *api.Well) { w.Parts[3].Other = 0 }},
		{"a wall that is open", func(w *api.Well) { w.Parts[3].Open = true }},
		{"tested ahead of all days", func(w *api.Well) { w.Parts[1].Tested = -1 }},
		{"tested behind all days", func(w *api.Well) { w.Parts[1].Tested = api.WellDays + 1 }},
		{"valid for less than no days", func(w *api.Well) { w.Parts[1].Valid = -1 }},
		{"valid for too many days", func(w *api.Well) { w.Parts[1].Valid = api.WellDays + 1 }},
		{"a test that costs nothing", func(w *api.Well) { w.Parts[2].Test = 0 }},
		{"a test that costs too much", func(w *api.Well) { w.Parts[2].Test = api.WellCost + 1 }},
		{"a change that costs nothing", func(w *api.Well) { w.Parts[2].Change = 0 }},
		{"a change that costs too much", func(w *api.Well) { w.Parts[2].Change = math.MaxInt }},
	}
}

// equal reports whether two results are the same, a nil list being an empty one.
func equal(a, b any) bool {
	x, y := reflect.ValueOf(a), reflect.ValueOf(b)
	if x.Kind() == reflect.Slice && x.Len() == 0 && y.Len() == 0 {
		return true
	}
	return reflect.DeepEqual(a, b)
}
