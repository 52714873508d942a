package well

import (
	"saltdome/api"
	"saltdome/valid"
)

// validWell reports whether a well is as defined.
func validWell(w api.Well) bool {
	return valid.Within(w.Rooms, leastRooms, api.WellRooms) && valid.Within(w.Need, 0, api.WellParts) &&
		valid.Within(len(w.Parts), 1, api.WellParts) &&
		valid.All(w.Parts, func(p api.WellPart) bool { return validPart(p, w.Rooms) })
}

// validPart reports whether a part is as defined in a well with so many rooms.
func validPart(p api.WellPart, rooms int) bool {
	return valid.Within(p.One, 0, rooms-1) && valid.Within(p.Other, 0, rooms-1) && p.One != p.Other &&
		(p.Valve || !p.Open) && validDay(p.Tested) && validDay(p.Valid) &&
		valid.Within(p.Test, 1, api.WellCost) && valid.Within(p.Change, 1, api.WellCost)
}

// validDay reports whether a number is a day, or a number of days.
func validDay(day int) bool { return valid.Within(day, 0, api.WellDays) }

// validLook reports whether a well is as defined, and can be looked at on a day.
func validLook(w api.Well, day int) bool { return validWell(w) && validDay(day) }

// validOp reports whether an operation is one on a part of a well.
func validOp(op api.WellOp, w api.Well) bool {
	return valid.Within(int(op.Kind), int(api.WellOpen), int(api.WellChange)) && valid.Within(op.Part, 0, len(w.Parts)-1)
}

// validGoal reports whether a goal is as defined for a well.
func validGoal(goal []api.WellWant, w api.Well) bool {
	least := 0
	for _, want := range goal {
		if !valid.Within(want.Part, least, len(w.Parts)-1) {
			return false
		}
		least = want.Part + 1
	}
	return true
}
