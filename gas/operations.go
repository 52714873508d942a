package gas

import "saltdome/api"

// truth is what is true in a rest: the share, and the grams of water. In another operation both are 0.
type truth struct {
	share, wet int
}

// truths returns what can be true in an operation, at its ends. Nothing depends on both numbers, so they need not be combined.
func truths(op api.GasOp) [2]truth {
	return [...]truth{{op.Share.Low, op.Wet.Low}, {op.Share.High, op.Wet.High}}
}

// outcome is what an operation makes of a content, and what goes out.
type outcome struct {
	behind, out api.GasPoint
}

// operation is what an operation of some kind does to a content in a cavern. It gives up if it cannot be done.
type operation func(chamber, api.GasPoint, api.GasOp, truth) outcome

func operations() map[api.GasKind]operation {
	return map[api.GasKind]operation{
		api.GasInject:   chamber.inject,
		api.GasWithdraw: chamber.withdraw,
		api.GasRest:     chamber.rest,
	}
}

// impossible is what an operation gives up with that cannot be done.
type impossible struct{}

// attempt does something, and reports whether it did not give up.
func attempt(do func()) (done bool) {
	defer func() { done = recover() == nil }()
	do()
	return true
}

// held returns a content; it gives up if that is more than a content can have.
func held(p api.GasPoint) api.GasPoint {
	if !validPoint(p) {
		panic(impossible{})
	}
	return p
}

func (v chamber) inject(p api.GasPoint, op api.GasOp, _ truth) outcome {
	there, comes := weighed(p, v.Heats), weighed(op.Lot, v.Heats)
	if there+comes > 0 {
		p.Heat = (there*p.Heat + comes*op.Lot.Heat) / (there + comes)
	}
	p.Gas += op.Lot.Gas
	p.Hydrogen += op.Lot.Hydrogen
	p.Water += op.Lot.Water
	return outcome{behind: held(p)}
}

func (v chamber) withdraw(p api.GasPoint, op api.GasOp, _ truth) outcome {
	all := p.Gas + p.Hydrogen
	if op.Moles > all {
		panic(impossible{})
	}
	if all == 0 {
		return outcome{behind: p}
	}
	out := api.GasPoint{Hydrogen: op.Moles * p.Hydrogen / all, Water: op.Moles * p.Water / all}
	out.Gas = op.Moles - out.Hydrogen
	p.Gas -= out.Gas
	p.Hydrogen -= out.Hydrogen
	p.Water -= out.Water
	return outcome{p, out}
}

func (v chamber) rest(p api.GasPoint, _ api.GasOp, t truth) outcome {
	p.Heat += (v.Rock - p.Heat) * t.share / perMille
	p.Water += t.wet
	return outcome{behind: held(p)}
}

// do returns the state behind an operation, and what is withdrawn; false, if it cannot be done. It is enough to look at corners: while one number of a content, or of what is true, grows, none that an operation makes of it both rises and falls, and what can be done for the corners can be done for all that lies between.
func (v chamber) do(s api.GasState, op api.GasOp) (api.GasState, api.GasOut, bool) {
	var behind, out []api.GasPoint
	act := operations()[op.Kind]
	done := attempt(func() {
		for p := range corners(s) {
			for _, t := range truths(op) {
				o := act(v, p, op, t)
				behind, out = append(behind, o.behind), append(out, o.out)
			}
		}
	})
	if !done {
		return api.GasState{}, api.GasOut{}, false
	}
	gone := stateOf(out...)
	return stateOf(behind...), api.GasOut{Gas: gone.Gas, Hydrogen: gone.Hydrogen, Water: gone.Water}, true
}

// steps returns the states behind each of some operations, up to the first one that cannot be done, and the index of that one, or -1.
func (v chamber) steps(s api.GasState, ops []api.GasOp) ([]api.GasState, int) {
	var states []api.GasState
	for i, op := range ops {
		behind, _, done := v.do(s, op)
		if !done {
			return states, i
		}
		states = append(states, behind)
		s = behind
	}
	return states, -1
}

// play returns the content behind operations, and all that went out; false, if one cannot be done.
func (v chamber) play(p api.GasPoint, ops []api.GasOp, shares, wets []int) (api.GasPoint, api.GasPoint, bool) {
	var out api.GasPoint
	known := operations()
	done := attempt(func() {
		for i, op := range ops {
			o := known[op.Kind](v, p, op, truth{shares[i], wets[i]})
			p = o.behind
			out.Gas += o.out.Gas
			out.Hydrogen += o.out.Hydrogen
			out.Water += o.out.Water
		}
	})
	return p, out, done
}
