package gas

import "saltdome/api"

// The units of shares and of pressures.
const (
	perMille     = 1000
	gasConstant  = 8314
	pressureUnit = 10000000
)

// chamber is a cavern that is looked at; it and all that is asked of it are as defined.
type chamber struct {
	api.GasCavern
}

// weighed returns the kilomoles of both kinds of gas, each with its weight.
func weighed(p api.GasPoint, weights [2]int) int { return p.Gas*weights[0] + p.Hydrogen*weights[1] }

// pressure returns the pressure of a content in a volume.
func (v chamber) pressure(p api.GasPoint, volume int) fraction[int] {
	return fraction[int]{weighed(p, v.Factors) * p.Heat * gasConstant, volume * pressureUnit}
}

// share returns the share of hydrogen of a content.
func share(p api.GasPoint) fraction[int] { return fraction[int]{p.Hydrogen, p.Gas + p.Hydrogen} }

// pressures returns the least and the greatest pressure of a state: a pressure grows with all that a content has, and falls with the volume.
func (v chamber) pressures(s api.GasState) (api.Frac, api.Frac) {
	least := api.GasPoint{Gas: s.Gas.Low, Hydrogen: s.Hydrogen.Low, Heat: s.Heat.Low}
	most := api.GasPoint{Gas: s.Gas.High, Hydrogen: s.Hydrogen.High, Heat: s.Heat.High}
	return toFrac(v.pressure(least, v.Volume.High)), toFrac(v.pressure(most, v.Volume.Low))
}

func toFrac(f fraction[int]) api.Frac {
	f = reduced(f)
	return api.Frac{Num: f.num, Den: f.den}
}

// rules returns the rules by their numbers: each reports whether a content breaks it in the volume that is the worst for it.
func (v chamber) rules() [api.GasRich + 1]func(api.GasPoint) bool {
	thinnest := fraction[int]{v.Purity.Low, perMille}
	richest := fraction[int]{v.Purity.High, perMille}
	return [...]func(api.GasPoint) bool{
		api.GasLow:  func(p api.GasPoint) bool { return less(v.pressure(p, v.Volume.High), whole(v.Least)) },
		api.GasHigh: func(p api.GasPoint) bool { return less(whole(v.Most), v.pressure(p, v.Volume.Low)) },
		api.GasThin: func(p api.GasPoint) bool { return less(share(p), thinnest) },
		api.GasRich: func(p api.GasPoint) bool { return less(richest, share(p)) },
	}
}

// rule returns the first rule, of those from some rule on, that a content of a state breaks. If any content breaks a rule, a corner does: a pressure and a share only grow, or only fall, with each number of a content.
func (v chamber) rule(s api.GasState, from api.GasRule) api.GasRule {
	rules := v.rules()
	for rule := from; rule <= api.GasRich; rule++ {
		for p := range corners(s) {
			if rules[rule](p) {
				return rule
			}
		}
	}
	return api.GasFine
}
