package plant

import (
	"saltdome/api"
	"saltdome/valid"
)

// leastRatio is the least ratio of pressures.
const leastRatio = 1000

// validRatio reports whether a number is a ratio of pressures.
func validRatio(ratio int) bool { return valid.Within(ratio, leastRatio, api.PlantRatio) }

// validRatios reports whether a span is one of ratios.
func validRatios(s api.Span) bool { return valid.Span(s, api.PlantRatio) && validRatio(s.Low) }

// validFlow reports whether a number is a flow.
func validFlow(flow int) bool { return valid.Within(flow, 0, api.PlantFlow) }

// validTime reports whether a number is one of hours of a machine, and not less than another one.
func validTime(hours, least int) bool { return valid.Within(hours, least, api.PlantTimes) }

// validRows reports whether a table is as defined.
func validRows(l []api.PlantRow) bool {
	least := leastRatio
	return valid.Within(len(l), 1, api.PlantRows) && valid.All(l, func(r api.PlantRow) bool {
		ok := valid.Within(r.Ratio, least, api.PlantRatio) && valid.Within(r.Least, 0, r.Most) && validFlow(r.Most) &&
			valid.Within(r.Energy, 0, api.PlantEnergy)
		least = r.Ratio + 1
		return ok
	})
}

// validMachine reports whether a machine is as defined.
func validMachine(m api.PlantMachine) bool {
	return valid.Within(int(m.Kind), int(api.PlantCompress), int(api.PlantDry)) && validRows(m.Rows) &&
		valid.Within(m.Start, 0, api.PlantStart) && validTime(m.Up, 1) && validTime(m.Down, 1) && validTime(m.Service, 1) &&
		validTime(m.Left, 0) && validTime(m.Life, 0) && validTime(m.Since, 0)
}

// validPlant reports whether a plant is as defined.
func validPlant(l []api.PlantMachine) bool {
	return valid.Within(len(l), 1, api.PlantMachines) && valid.All(l, validMachine)
}

// validRun reports whether machines that run are those of a plant, which is as defined, and a flow is one.
func validRun(l []api.PlantMachine, runs []bool, flow int) bool {
	return validPlant(l) && len(runs) == len(l) && validFlow(flow)
}

// validHours reports whether a plant and hours are as defined.
func validHours(l []api.PlantMachine, hours []api.PlantHour) bool {
	return validPlant(l) && valid.All(hours, func(h api.PlantHour) bool { return validFlow(h.Flow) && validRatios(h.Ratio) })
}

// validState reports whether a machine can do that in an hour.
func validState(s api.PlantState) bool {
	return valid.Within(int(s), int(api.PlantStands), int(api.PlantServed))
}

// validSchedule reports whether a plant, hours and a schedule for them are as defined.
func validSchedule(l []api.PlantMachine, hours []api.PlantHour, schedule [][]api.PlantState) bool {
	return validHours(l, hours) && len(schedule) == len(hours) && valid.All(schedule, func(acts []api.PlantState) bool {
		return len(acts) == len(l) && valid.All(acts, validState)
	})
}
