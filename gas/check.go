package gas

import (
	"saltdome/api"
	"saltdome/valid"
)

// The bounds of what a kind of gas is like.
const (
	leastFactor = 500
	mostFactor  = 2000
	mostHeat    = 100
)

// validHeat reports whether a number is a temperature.
func validHeat(n int) bool { return valid.Within(n, api.GasCold, api.GasHot) }

// validCavern reports whether a cavern is as defined.
func validCavern(c api.GasCavern) bool {
	for kind, factor := range c.Factors {
		if !valid.Within(factor, leastFactor, mostFactor) || !valid.Within(c.Heats[kind], 1, mostHeat) {
			return false
		}
	}
	return c.Volume.Low >= 1 && valid.Span(c.Volume, api.GasVolume) &&
		valid.Span(api.Span{Low: c.Least, High: c.Most}, api.GasPressure) && validHeat(c.Rock) && valid.Span(c.Purity, perMille)
}

// validPoint reports whether a content, or a lot, is as defined.
func validPoint(p api.GasPoint) bool {
	return valid.Within(p.Gas, 0, api.GasMoles) && valid.Within(p.Hydrogen, 0, api.GasMoles) && validHeat(p.Heat) &&
		valid.Within(p.Water, 0, api.GasWater)
}

// validState reports whether a state is as defined.
func validState(s api.GasState) bool {
	return valid.Span(s.Gas, api.GasMoles) && valid.Span(s.Hydrogen, api.GasMoles) && s.Heat.Low >= api.GasCold &&
		valid.Span(s.Heat, api.GasHot) && valid.Span(s.Water, api.GasWater)
}

// validOp reports whether an operation is as defined: all that its kind does not use is 0.
func validOp(op api.GasOp) bool {
	unused := op
	unused.Kind = 0
	ok := false
	switch op.Kind {
	case api.GasInject:
		ok, unused.Lot = validPoint(op.Lot), api.GasPoint{}
	case api.GasWithdraw:
		ok, unused.Moles = valid.Within(op.Moles, 0, 2*api.GasMoles), 0
	case api.GasRest:
		ok = valid.Span(op.Share, perMille) && valid.Span(op.Wet, api.GasWet)
		unused.Share, unused.Wet = api.Span{}, api.Span{}
	}
	return ok && unused == api.GasOp{}
}

// validTruth reports whether shares and wets can be true of some operations. The spans of those that are no rest are from 0 to 0.
func validTruth(ops []api.GasOp, shares, wets []int) bool {
	if len(shares) != len(ops) || len(wets) != len(ops) {
		return false
	}
	for i, op := range ops {
		if !valid.Within(shares[i], op.Share.Low, op.Share.High) || !valid.Within(wets[i], op.Wet.Low, op.Wet.High) {
			return false
		}
	}
	return true
}
