package gas

import (
	"iter"

	"saltdome/api"
)

// corners goes through the contents of a state whose numbers are all at ends of its spans.
func corners(s api.GasState) iter.Seq[api.GasPoint] {
	return func(yield func(api.GasPoint) bool) {
		for _, gas := range ends(s.Gas) {
			for _, hydrogen := range ends(s.Hydrogen) {
				for _, heat := range ends(s.Heat) {
					for _, water := range ends(s.Water) {
						if !yield(api.GasPoint{Gas: gas, Hydrogen: hydrogen, Heat: heat, Water: water}) {
							return
						}
					}
				}
			}
		}
	}
}

func ends(s api.Span) [2]int { return [...]int{s.Low, s.High} }

// stateOf returns the state with the narrowest spans that has all of some contents.
func stateOf(contents ...api.GasPoint) api.GasState {
	return api.GasState{
		Gas:      around(func(p api.GasPoint) int { return p.Gas }, contents...),
		Hydrogen: around(func(p api.GasPoint) int { return p.Hydrogen }, contents...),
		Heat:     around(func(p api.GasPoint) int { return p.Heat }, contents...),
		Water:    around(func(p api.GasPoint) int { return p.Water }, contents...),
	}
}

// around returns the narrowest span that has a number of each of some contents, of which there is at least one.
func around(number func(api.GasPoint) int, contents ...api.GasPoint) api.Span {
	all := api.Span{Low: number(contents[0]), High: number(contents[0])}
	for _, p := range contents {
		all.Low = min(all.Low, number(p))
		all.High = max(all.High, number(p))
	}
	return all
}
