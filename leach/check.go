package leach

import (
	"saltdome/api"
	"saltdome/valid"
)

// validSlice reports whether a slice is as defined.
func validSlice(s api.LeachSlice) bool {
	return valid.Span(s.Volume, api.LeachVolume) && valid.Within(s.Open, 1000, api.LeachOpen) && valid.Within(s.Fall, 0, s.Open-1) &&
		valid.Span(s.Rate, api.LeachRate) && valid.Within(s.Most, 0, api.LeachVolume)
}

// validCavern reports whether a cavern is as defined.
func validCavern(c api.LeachCavern) bool {
	if !valid.Within(len(c.Slices), 1, api.LeachSlices) || !valid.Within(c.Hold, 1, api.LeachRate) || !valid.Within(c.Oil, 0, api.LeachVolume) {
		return false
	}
	for _, s := range c.Slices {
		if !validSlice(s) {
			return false
		}
	}
	return true
}

// validStage reports whether a stage is one of a cavern.
func validStage(c api.LeachCavern, s api.LeachStage) bool {
	top := len(c.Slices) - 1
	return valid.Within(s.Water, 1, api.LeachWater) && valid.Within(s.In, 0, top) && valid.Within(s.Out, 0, top) && s.In != s.Out &&
		valid.Within(s.Blanket, 0, top+1)
}

// validMeasure reports whether weights make a measure of a cavern.
func validMeasure(c api.LeachCavern, weights []int, sump int) bool {
	if len(weights) != len(c.Slices) {
		return false
	}
	for _, w := range weights {
		if !valid.Within(w, -api.LeachWeight, api.LeachWeight) {
			return false
		}
	}
	return valid.Within(sump, -api.LeachWeight, api.LeachWeight)
}

// validTruth reports whether a truth is one of a cavern with so many stages.
func validTruth(c api.LeachCavern, stages int, t api.LeachTruth) bool {
	if len(t.Volumes) != len(c.Slices) || len(t.Rates) != stages {
		return false
	}
	for i, s := range c.Slices {
		if !valid.Within(t.Volumes[i], s.Volume.Low, s.Volume.High) {
			return false
		}
	}
	for _, rates := range t.Rates {
		if !validRates(c, rates) {
			return false
		}
	}
	return true
}

// validRates reports whether each slice of a cavern can have its rate.
func validRates(c api.LeachCavern, rates []int) bool {
	if len(rates) != len(c.Slices) {
		return false
	}
	for i, s := range c.Slices {
		if !valid.Within(rates[i], s.Rate.Low, s.Rate.High) {
			return false
		}
	}
	return true
}

// validShape reports whether a shape can be wanted of a cavern.
func validShape(c api.LeachCavern, want []int) bool {
	if len(want) != len(c.Slices) {
		return false
	}
	for _, n := range want {
		if !valid.Within(n, 0, api.LeachVolume) {
			return false
		}
	}
	return true
}

// checkStages returns the error of a cavern with stages, of which there may be most.
func checkStages(c api.LeachCavern, stages []api.LeachStage, most int) api.Errno {
	if len(stages) > most {
		return api.ErrLong
	}
	if !validCavern(c) {
		return api.ErrArg
	}
	for _, s := range stages {
		if !validStage(c, s) {
			return api.ErrArg
		}
	}
	return api.OK
}

// checkMenu returns the error of a cavern with a menu and a shape that is wanted.
func checkMenu(c api.LeachCavern, menu []api.LeachStage, want []int) api.Errno {
	if e := checkStages(c, menu, api.LeachMenu); e != api.OK {
		return e
	}
	return valid.Argument(len(menu) > 0 && validShape(c, want))
}
