package gas

import "saltdome/api"

// injections returns the operations that inject so many lots.
func injections(lot api.GasPoint) func(int) api.GasOp {
	return func(n int) api.GasOp {
		lots := api.GasPoint{Gas: n * lot.Gas, Hydrogen: n * lot.Hydrogen, Heat: lot.Heat, Water: n * lot.Water}
		return api.GasOp{Kind: api.GasInject, Lot: lots}
	}
}

// withdrawals returns the operations that withdraw so many units.
func withdrawals(unit int) func(int) api.GasOp {
	return func(n int) api.GasOp { return api.GasOp{Kind: api.GasWithdraw, Moles: n * unit} }
}

// most returns the greatest number so that the operations of all numbers from 1 to it can be done, with fine states behind them.
func (v chamber) most(s api.GasState, op func(int) api.GasOp) int {
	for n := range api.GasLots {
		behind, _, done := v.do(s, op(n+1))
		if !done || v.rule(behind, api.GasLow) != api.GasFine {
			return n
		}
	}
	return api.GasLots
}

// purge returns the least number of lots behind which no content has too little hydrogen, nor too much; false, if there is none. If so many lots cannot be injected, more cannot be either.
func (v chamber) purge(s api.GasState, lot api.GasPoint) (int, bool) {
	inject := injections(lot)
search:
	for n := range api.GasLots + 1 {
		behind, _, done := v.do(s, inject(n))
		switch {
		case !done:
			break search
		case v.rule(behind, api.GasThin) == api.GasFine:
			return n, true
		}
	}
	return 0, false
}
