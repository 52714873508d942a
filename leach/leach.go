// Package leach is layer 1: see shared/doc/01-leach.md.
package leach

import (
	"saltdome/api"
	"saltdome/valid"
)

// Check returns the error of a cavern.
func Check(c api.LeachCavern) api.Errno { return valid.Argument(validCavern(c)) }

// Rates returns between which bounds a cubic metre of water takes salt from each slice.
func Rates(c api.LeachCavern, s api.LeachStage) ([]api.Span, api.Errno) {
	if !validCavern(c) || !validStage(c, s) {
		return nil, api.ErrArg
	}
	return ask(c).rates(s), api.OK
}

// After returns the bounds of the shape behind some stages.
func After(c api.LeachCavern, stages []api.LeachStage) (api.LeachShape, api.Errno) {
	if e := checkStages(c, stages, api.LeachStages); e != api.OK {
		return api.LeachShape{}, e
	}
	return ask(c).shape(stages), api.OK
}

// Bound returns the bounds of a measure behind some stages.
func Bound(c api.LeachCavern, stages []api.LeachStage, weights []int, sump int) (api.Span, api.Errno) {
	if e := checkStages(c, stages, api.LeachStages); e != api.OK {
		return api.Span{}, e
	}
	if !validMeasure(c, weights, sump) {
		return api.Span{}, api.ErrArg
	}
	m := measure{sump: sump}
	copy(m.slices[:], weights)
	return ask(c).bounds(stages, m), api.OK
}

// Play returns what is true behind some stages.
func Play(c api.LeachCavern, stages []api.LeachStage, t api.LeachTruth) (api.LeachEnd, api.Errno) {
	if e := checkStages(c, stages, api.LeachStages); e != api.OK {
		return api.LeachEnd{}, e
	}
	if !validTruth(c, len(stages), t) {
		return api.LeachEnd{}, api.ErrArg
	}
	return ask(c).play(stages, t), api.OK
}

// Grade returns the bounds of the strength of the brine of a stage.
func Grade(c api.LeachCavern, s api.LeachStage) (api.Frac, api.Frac, api.Errno) {
	if !validCavern(c) || !validStage(c, s) {
		return api.Frac{}, api.Frac{}, api.ErrArg
	}
	weakest, strongest := ask(c).grade(s)
	return weakest, strongest, api.OK
}

// Fault returns the first fault of a programme.
func Fault(c api.LeachCavern, stages []api.LeachStage) (int, api.LeachRule, int, api.Errno) {
	if e := checkStages(c, stages, api.LeachStages); e != api.OK {
		return 0, 0, 0, e
	}
	stage, rule, of := programme{ask(c), stages}.fault()
	return stage, rule, of, api.OK
}

// Plan returns the best plan for a shape.
func Plan(c api.LeachCavern, menu []api.LeachStage, want []int) ([]int, api.Errno) {
	if e := checkMenu(c, menu, want); e != api.OK {
		return nil, e
	}
	best, found := planner{ask(c), menu, want}.best()
	if !found {
		return nil, api.ErrNone
	}
	return best, api.OK
}

// Least returns the least number of stages for a shape.
func Least(c api.LeachCavern, menu []api.LeachStage, want []int) (int, api.Errno) {
	if e := checkMenu(c, menu, want); e != api.OK {
		return 0, e
	}
	number, found := planner{ask(c), menu, want}.least()
	if !found {
		return 0, api.ErrNone
	}
	return number, api.OK
}

// Print returns the sonar log of a cavern.
func Print(c api.LeachCavern) (string, api.Errno) {
	if !validCavern(c) {
		return "", api.ErrArg
	}
	return writeLog(c), api.OK
}

// Read returns the cavern of a sonar log.
func Read(text string) (api.LeachCavern, api.Errno) {
	if len(text) > api.LeachText {
		return api.LeachCavern{}, api.ErrLong
	}
	c, ok := readLog(text)
	if !ok {
		return api.LeachCavern{}, api.ErrText
	}
	if !validCavern(c) {
		return api.LeachCavern{}, api.ErrArg
	}
	return c, api.OK
}
