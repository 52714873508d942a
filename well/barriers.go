package well

import (
	"iter"
	"sort"

	"saltdome/api"
)

// The rooms that each well has.
const (
	gas = iota
	world
	leastRooms
)

// set is a set of parts, or of rooms: the bits of their numbers.
type set uint

func (s set) has(n int) bool { return s.count(n) == 1 }

// count returns how many times a number is in a set: once, or not at all.
func (s set) count(n int) int { return int(s >> n & 1) }

func (s set) with(n int) set { return s | 1<<n }

func (s set) without(n int) set { return s &^ (1 << n) }

// survey is a well that is looked at on a day; both are as defined.
type survey struct {
	api.Well
	day int
}

// partsAt goes through the parts at a room, in increasing order, each with the room to which it leads.
func (v survey) partsAt(room int) iter.Seq2[int, int] {
	return func(yield func(int, int) bool) {
		for part, p := range v.Parts {
			if p.One == room && !yield(part, p.Other) || p.Other == room && !yield(part, p.One) {
				return
			}
		}
	}
}

// tight returns the parts that are tight.
func (v survey) tight() set {
	var tight set
	for part := range v.Parts {
		if v.piece(part).tight() {
			tight = tight.with(part)
		}
	}
	return tight
}

// distances returns the least number of tight parts between a room and each room, on ways that come to none of some rooms; if there is no way, one more than there are parts.
func (v survey) distances(from int, been, tight set) [api.WellRooms]int {
	var distances [api.WellRooms]int
	for room := range distances {
		distances[room] = len(v.Parts) + 1
	}
	distances[from] = 0
	var rooms queue[int]
	for room, ok := from, true; ok; room, ok = rooms.next() {
		for part, other := range v.partsAt(room) {
			distance := distances[room] + tight.count(part)
			if !been.has(other) && distance < distances[other] {
				distances[other] = distance
				rooms.add(other)
			}
		}
	}
	return distances
}

// number returns the number of barriers if some parts are tight.
func (v survey) number(tight set) int { return v.distances(gas, 0, tight)[world] }

// barriers returns the barriers of a well in which there is a way.
func (v survey) barriers() [][]int {
	tight := v.tight()
	distances := v.distances(gas, 0, tight)
	barriers := make([][]int, distances[world])
	for part, p := range v.Parts {
		one, other := distances[p.One], distances[p.Other]
		if near := min(one, other); tight.has(part) && one != other && near < distances[world] {
			barriers[near] = append(barriers[near], part)
		}
	}
	return barriers
}

// way returns the first way with the fewest tight parts, in a well in which there is one. Whatever part it goes on with, it can still get to the world with no more than these, and without coming to a room again.
func (v survey) way() []int {
	var way []int
	tight := v.tight()
	left, been, room := v.number(tight), set(0).with(gas), gas
search:
	for room != world {
		for part, other := range v.partsAt(room) {
			rest := left - tight.count(part)
			if !been.has(other) && v.distances(other, been, tight)[world] <= rest {
				way = append(way, part)
				left, been, room = rest, been.with(other), other
				continue search
			}
		}
	}
	return way
}

// alone returns the parts that hold alone. Without one that is not tight there are as many barriers as with it.
func (v survey) alone() []int {
	tight := v.tight()
	if v.number(tight) == 0 {
		return nil
	}
	var alone []int
	for part := range v.Parts {
		if v.number(tight.without(part)) == 0 {
			alone = append(alone, part)
		}
	}
	return alone
}

// lasts returns the first day from this one on with too few barriers; a day after the last one, if there is none. While nothing is done, no part gets tight, so that there are never more barriers than on a day before.
func (v survey) lasts() int {
	return v.day + sort.Search(api.WellDays-v.day+1, func(days int) bool {
		later := survey{v.Well, v.day + days}
		return later.number(later.tight()) < v.Need
	})
}
