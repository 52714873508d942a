package well

import (
	"slices"

	"saltdome/api"
)

// condition is what a part is like on a day.
type condition int

const (
	good condition = iota
	old
	bad
)

// piece is a part that is looked at on a day.
type piece struct {
	api.WellPart
	day int
}

func (v survey) piece(part int) piece { return piece{v.Parts[part], v.day} }

func (p piece) condition() condition {
	switch {
	case p.Bad:
		return bad
	case p.day > p.Tested+p.Valid:
		return old
	}
	return good
}

func (p piece) tight() bool { return p.condition() == good && !p.Open }

// turning is what it costs to open or to close a valve.
const turning = 1

// operation is what an operation of some kind does to a part, if a test passes or not: it returns what the part is then, what the operation costs, and whether it can be done.
type operation func(p piece, passes bool) (piece, int, bool)

func operations() map[api.WellKind]operation {
	return map[api.WellKind]operation{
		api.WellOpen:   piece.open,
		api.WellClose:  piece.close,
		api.WellTest:   piece.test,
		api.WellChange: piece.change,
	}
}

func (p piece) open(bool) (piece, int, bool) {
	can := p.Valve && !p.Open
	p.Open = true
	return p, turning, can
}

func (p piece) close(bool) (piece, int, bool) {
	can := p.Valve && p.Open
	p.Open = false
	return p, turning, can
}

func (p piece) test(passes bool) (piece, int, bool) {
	can := !p.Open && p.condition() == old
	if passes {
		p.Tested = p.day
	} else {
		p.Bad = true
	}
	return p, p.Test, can
}

func (p piece) change(bool) (piece, int, bool) {
	can := !p.Open
	p.Tested, p.Bad = p.day, false
	return p, p.Change, can
}

// safe reports whether an operation is safe if some parts are tight ahead of it, and some behind it; number tells how many barriers there are if some parts are tight.
func (v survey) safe(op api.WellOp, ahead, behind set, number func(set) int) bool {
	enough := min(v.Need, number(ahead))
	return number(behind) >= enough && (op.Kind != api.WellChange || number(ahead.without(op.Part)) >= enough)
}

// do returns the well behind an operation, and what it costs.
func (v survey) do(op api.WellOp, passes bool) (api.Well, int, api.Errno) {
	part, cost, can := operations()[op.Kind](v.piece(op.Part), passes)
	if !can {
		return api.Well{}, 0, api.ErrState
	}
	behind := v
	behind.Parts = slices.Clone(v.Parts)
	behind.Parts[op.Part] = part.WellPart
	if !v.safe(op, v.tight(), behind.tight(), v.number) {
		return api.Well{}, 0, api.ErrRule
	}
	return behind.Well, cost, api.OK
}
