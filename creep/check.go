package creep

import (
	"saltdome/api"
	"saltdome/valid"
)

// validPlace reports whether a place is one of a site.
func validPlace(x, y int) bool {
	return valid.Within(x, -api.CreepPlace, api.CreepPlace) && valid.Within(y, -api.CreepPlace, api.CreepPlace)
}

// rises reports whether a number of each row is greater than that of the row before, from 0 to most.
func rises[R any](rows []R, most int, number func(R) int) bool {
	least := 0
	return valid.All(rows, func(r R) bool {
		ok := valid.Within(number(r), least, most)
		least = number(r) + 1
		return ok
	})
}

// neverFalls reports whether a span of each row is valid, with bounds that are not less than those of the row before.
func neverFalls[R any](rows []R, most int, span func(R) api.Span) bool {
	var before api.Span
	return valid.All(rows, func(r R) bool {
		s := span(r)
		ok := valid.Span(s, most) && s.Low >= before.Low && s.High >= before.High
		before = s
		return ok
	})
}

// validCavern reports whether a cavern is as defined.
func validCavern(c api.CreepCavern) bool {
	return validPlace(c.X, c.Y) && valid.Span(c.Radius, api.CreepRadius) && valid.Span(c.Volume, api.CreepVolume) &&
		valid.Within(c.Rock, 0, api.CreepPressure) && valid.Within(c.Floor, 0, api.CreepVolume) &&
		valid.Span(c.Gate, api.CreepPressure) && valid.Within(c.Change, 0, api.CreepPressure)
}

// validCaverns reports whether caverns are as defined, each at a place of its own.
func validCaverns(l []api.CreepCavern) bool {
	if !valid.Within(len(l), 1, api.CreepCaverns) || !valid.All(l, validCavern) {
		return false
	}
	for i, j := range pairs(len(l)) {
		if l[i].X == l[j].X && l[i].Y == l[j].Y {
			return false
		}
	}
	return true
}

// validRows reports whether the table of deficits is as defined.
func validRows(l []api.CreepRow) bool {
	return valid.Within(len(l), 1, api.CreepRows) && l[0].Deficit == 0 && rises(l, api.CreepPressure, deficitOf) &&
		neverFalls(l, api.CreepRate, func(r api.CreepRow) api.Span { return r.Rate }) &&
		neverFalls(l, api.CreepSpall, func(r api.CreepRow) api.Span { return r.Spall })
}

// validHeats reports whether the table of temperatures is as defined.
func validHeats(l []api.CreepHeat) bool {
	return valid.Within(len(l), 1, api.CreepRows) && rises(l, api.CreepWarmth, warmthOf) &&
		neverFalls(l, api.CreepFactor, func(h api.CreepHeat) api.Span { return h.Factor })
}

// validRings reports whether rings are as defined.
func validRings(l []api.CreepRing) bool {
	return len(l) <= api.CreepRings && rises(l, 4*api.CreepPlace, func(r api.CreepRing) int { return r.Away }) &&
		valid.All(l, func(r api.CreepRing) bool { return valid.Span(r.Share, api.CreepShare) })
}

// validHouse reports whether a house is as defined.
func validHouse(h api.CreepHouse) bool {
	return validPlace(h.X, h.Y) && valid.Within(h.Most, 0, api.CreepShare)
}

// validSite reports whether a site is as defined.
func validSite(s api.CreepSite) bool {
	return validCaverns(s.Caverns) && validRows(s.Rows) && validHeats(s.Heats) && valid.Within(s.Wall, 0, api.CreepWall) &&
		validRings(s.Rings) && len(s.Houses) <= api.CreepHouses && valid.All(s.Houses, validHouse)
}

// validCavernOf reports whether a number is that of a cavern of a site.
func validCavernOf(s api.CreepSite, i int) bool { return valid.Within(i, 0, len(s.Caverns)-1) }

// validState reports whether a state is as defined.
func validState(s api.CreepState) bool {
	return valid.Span(s.Radius, mostRadius) && valid.Span(s.Volume, api.CreepVolume) && valid.Span(s.Lost, mostLost)
}

// validStates reports whether states are those of a site.
func validStates(s api.CreepSite, l []api.CreepState) bool {
	return len(l) == len(s.Caverns) && valid.All(l, validState)
}

// validDay reports whether a day is one of a site.
func validDay(s api.CreepSite, d api.CreepDay) bool {
	return len(d.Pressures) == len(s.Caverns) && len(d.Warmths) == len(s.Caverns) &&
		valid.All(d.Pressures, func(p api.Span) bool { return valid.Span(p, api.CreepPressure) }) &&
		valid.All(d.Warmths, func(w api.Span) bool { return valid.Span(w, api.CreepWarmth) })
}

// validDays reports whether days are those of a site.
func validDays(s api.CreepSite, days []api.CreepDay) bool {
	return valid.All(days, func(d api.CreepDay) bool { return validDay(s, d) })
}

// validPressures reports whether each cavern of a site has a pressure.
func validPressures(s api.CreepSite, l []int) bool {
	return len(l) == len(s.Caverns) && valid.All(l, func(p int) bool { return valid.Within(p, 0, api.CreepPressure) })
}

// validNeeds reports whether numbers of caverns can be needed of a site.
func validNeeds(s api.CreepSite, needs []int) bool {
	return valid.All(needs, func(n int) bool { return valid.Within(n, 0, len(s.Caverns)) })
}
