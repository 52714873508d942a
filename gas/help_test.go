package gas_test

import (
	"math/big"
	"math/rand"
	"testing"

	"saltdome/api"
	"saltdome/gas"
)

func span(low, high int) api.Span { return api.Span{Low: low, High: high} }

func exactly(n int) api.Span { return span(n, n) }

func in(s api.Span, n int) bool { return s.Low <= n && n <= s.High }

func inside(s, of api.Span) bool { return of.Low <= s.Low && s.High <= of.High }

func point(gas, hydrogen, heat, water int) api.GasPoint {
	return api.GasPoint{Gas: gas, Hydrogen: hydrogen, Heat: heat, Water: water}
}

func state(gas, hydrogen, heat, water api.Span) api.GasState {
	return api.GasState{Gas: gas, Hydrogen: hydrogen, Heat: heat, Water: water}
}

// only returns the state that has one content.
func only(p api.GasPoint) api.GasState {
	return state(exactly(p.Gas), exactly(p.Hydrogen), exactly(p.Heat), exactly(p.Water))
}

func has(s api.GasState, p api.GasPoint) bool {
	return in(s.Gas, p.Gas) && in(s.Hydrogen, p.Hydrogen) && in(s.Heat, p.Heat) && in(s.Water, p.Water)
}

func hasAll(s, of api.GasState) bool {
	return inside(of.Gas, s.Gas) && inside(of.Hydrogen, s.Hydrogen) && inside(of.Heat, s.Heat) && inside(of.Water, s.Water)
}

func out(gas, hydrogen, water api.Span) api.GasOut {
	return api.GasOut{Gas: gas, Hydrogen: hydrogen, Water: water}
}

func inject(lot api.GasPoint) api.GasOp { return api.GasOp{Kind: api.GasInject, Lot: lot} }

func withdraw(moles int) api.GasOp { return api.GasOp{Kind: api.GasWithdraw, Moles: moles} }

func rest(share, wet api.Span) api.GasOp {
	return api.GasOp{Kind: api.GasRest, Share: share, Wet: wet}
}

// example returns the cavern c of the chapter.
func example() api.GasCavern {
	return api.GasCavern{Volume: span(1000, 1100), Least: 2000, Most: 9000, Factors: [2]int{900, 1000}, Heats: [2]int{36, 29}, Rock: 3200, Purity: span(0, 100)}
}

// exampleState returns the state s of the chapter.
func exampleState() api.GasState {
	return state(span(2000, 2100), span(100, 110), span(3000, 3100), span(50000, 60000))
}

// exampleLot returns the lot l of the chapter.
func exampleLot() api.GasPoint { return point(90, 10, 2900, 0) }

// plain returns a cavern in which the pressure is half of the kilomoles at the greatest temperature, and no gate is closed.
func plain() api.GasCavern {
	return api.GasCavern{Volume: exactly(8314), Most: api.GasPressure, Factors: [2]int{1000, 1000}, Heats: [2]int{10, 10}, Rock: 3000, Purity: span(0, 1000)}
}

// hot returns the content of some kilomoles at the greatest temperature, without water.
func hot(gas, hydrogen int) api.GasPoint { return point(gas, hydrogen, api.GasHot, 0) }

// someSpan returns a span of numbers from least to most, with a width of at most some number.
func someSpan(r *rand.Rand, least, most, width int) api.Span {
	low := least + r.Intn(most-least+1)
	return span(low, min(most, low+r.Intn(width+1)))
}

// some returns a number of a span, often one of its ends.
func some(r *rand.Rand, s api.Span) int {
	switch r.Intn(4) {
	case 0:
		return s.Low
	case 1:
		return s.High
	}
	return s.Low + r.Intn(s.High-s.Low+1)
}

func somePoint(r *rand.Rand, s api.GasState) api.GasPoint {
	return point(some(r, s.Gas), some(r, s.Hydrogen), some(r, s.Heat), some(r, s.Water))
}

// part returns a span of numbers of a span.
func part(r *rand.Rand, s api.Span) api.Span {
	a, b := some(r, s), some(r, s)
	return span(min(a, b), max(a, b))
}

func partState(r *rand.Rand, s api.GasState) api.GasState {
	return state(part(r, s.Gas), part(r, s.Hydrogen), part(r, s.Heat), part(r, s.Water))
}

// smallCavern returns a cavern whose gates small states are often just at.
func smallCavern(r *rand.Rand) api.GasCavern {
	least := r.Intn(12)
	return api.GasCavern{Volume: someSpan(r, 5000, 9000, 3), Least: least * r.Intn(2), Most: least + r.Intn(20), Factors: [2]int{500 + r.Intn(1501), 500 + r.Intn(1501)}, Heats: [2]int{1 + r.Intn(100), 1 + r.Intn(100)}, Rock: 2000 + r.Intn(3001), Purity: part(r, span(0, 1000))}
}

// smallState returns a state with few contents, of few kilomoles.
func smallState(r *rand.Rand) api.GasState {
	return state(someSpan(r, 0, 20, 4), someSpan(r, 0, 20, 4), someSpan(r, api.GasCold, api.GasHot, 4), someSpan(r, 0, 30, 3))
}

func smallLot(r *rand.Rand) api.GasPoint {
	return point(r.Intn(9)*r.Intn(2), r.Intn(9)*r.Intn(2), api.GasCold+r.Intn(3001), r.Intn(9))
}

// smallOp returns an operation that can often be done on a small state, and has few truths.
func smallOp(r *rand.Rand) api.GasOp {
	switch r.Intn(3) {
	case 0:
		return inject(smallLot(r))
	case 1:
		return withdraw(r.Intn(20))
	}
	return rest(someSpan(r, 0, 1000, 3), someSpan(r, 0, 9, 2))
}

// greatState returns a state of any numbers.
func greatState(r *rand.Rand) api.GasState {
	return state(part(r, span(0, api.GasMoles)), part(r, span(0, api.GasMoles)), part(r, span(api.GasCold, api.GasHot)), part(r, span(0, api.GasWater)))
}

// greatOp returns an operation of any numbers, which can often be done on the contents of a state.
func greatOp(r *rand.Rand, s api.GasState) api.GasOp {
	switch r.Intn(3) {
	case 0:
		return inject(point(r.Intn(api.GasMoles-s.Gas.High+2), r.Intn(api.GasMoles-s.Hydrogen.High+2)%(api.GasMoles+1), some(r, span(api.GasCold, api.GasHot)), r.Intn(api.GasWater-s.Water.High+1)))
	case 1:
		return withdraw(r.Intn(s.Gas.Low + s.Hydrogen.Low + 2))
	}
	return rest(part(r, span(0, 1000)), part(r, span(0, api.GasWet)))
}

// contents returns all contents of a state.
func contents(s api.GasState) []api.GasPoint {
	var l []api.GasPoint
	for g := s.Gas.Low; g <= s.Gas.High; g++ {
		for h := s.Hydrogen.Low; h <= s.Hydrogen.High; h++ {
			for t := s.Heat.Low; t <= s.Heat.High; t++ {
				for w := s.Water.Low; w <= s.Water.High; w++ {
					l = append(l, point(g, h, t, w))
				}
			}
		}
	}
	return l
}

// quotient returns a times b, divided by c, rounded towards 0.
func quotient(a, b, c int) int {
	product := new(big.Int).Mul(big.NewInt(int64(a)), big.NewInt(int64(b)))
	return int(product.Quo(product, big.NewInt(int64(c))).Int64())
}

// acted returns what an operation makes of a content, and what goes out, as the chapter says it; false, if it cannot be done.
func acted(c api.GasCavern, p api.GasPoint, op api.GasOp, share, wet int) (api.GasPoint, api.GasPoint, bool) {
	q, gone := p, api.GasPoint{}
	switch op.Kind {
	case api.GasInject:
		q.Gas, q.Hydrogen, q.Water = p.Gas+op.Lot.Gas, p.Hydrogen+op.Lot.Hydrogen, p.Water+op.Lot.Water
		there := p.Gas*c.Heats[0] + p.Hydrogen*c.Heats[1]
		comes := op.Lot.Gas*c.Heats[0] + op.Lot.Hydrogen*c.Heats[1]
		if there != 0 || comes != 0 {
			q.Heat = (there*p.Heat + comes*op.Lot.Heat) / (there + comes)
		}
	case api.GasWithdraw:
		n := p.Gas + p.Hydrogen
		if n < op.Moles {
			return q, gone, false
		}
		if n > 0 {
			gone = point(0, quotient(op.Moles, p.Hydrogen, n), 0, quotient(op.Moles, p.Water, n))
			gone.Gas = op.Moles - gone.Hydrogen
		}
		q = point(p.Gas-gone.Gas, p.Hydrogen-gone.Hydrogen, p.Heat, p.Water-gone.Water)
	case api.GasRest:
		q.Heat, q.Water = p.Heat+quotient(c.Rock-p.Heat, share, 1000), p.Water+wet
	}
	return q, gone, q.Gas <= api.GasMoles && q.Hydrogen <= api.GasMoles && q.Water <= api.GasWater
}

// hull returns the state with the narrowest spans that has some contents.
func hull(l []api.GasPoint) api.GasState {
	s := only(l[0])
	for _, p := range l {
		s.Gas = span(min(s.Gas.Low, p.Gas), max(s.Gas.High, p.Gas))
		s.Hydrogen = span(min(s.Hydrogen.Low, p.Hydrogen), max(s.Hydrogen.High, p.Hydrogen))
		s.Heat = span(min(s.Heat.Low, p.Heat), max(s.Heat.High, p.Heat))
		s.Water = span(min(s.Water.Low, p.Water), max(s.Water.High, p.Water))
	}
	return s
}

// behind returns the state behind an operation, and what is withdrawn, from all contents and all that can be true; false, if it cannot be done.
func behind(c api.GasCavern, s api.GasState, op api.GasOp) (api.GasState, api.GasOut, bool) {
	var after, gone []api.GasPoint
	for _, p := range contents(s) {
		for share := op.Share.Low; share <= op.Share.High; share++ {
			for wet := op.Wet.Low; wet <= op.Wet.High; wet++ {
				q, o, ok := acted(c, p, op, share, wet)
				if !ok {
					return api.GasState{}, api.GasOut{}, false
				}
				after, gone = append(after, q), append(gone, o)
			}
		}
	}
	o := hull(gone)
	return hull(after), out(o.Gas, o.Hydrogen, o.Water), true
}

// pressureOf returns the pressure of a content in a volume.
func pressureOf(c api.GasCavern, p api.GasPoint, volume int) *big.Rat {
	num := big.NewInt(int64(p.Gas*c.Factors[0] + p.Hydrogen*c.Factors[1]))
	num.Mul(num, big.NewInt(int64(p.Heat)))
	num.Mul(num, big.NewInt(8314))
	return new(big.Rat).SetFrac(num, big.NewInt(int64(volume)*10000000))
}

// wrong reports whether a content of a small state breaks a rule in a volume.
func wrong(c api.GasCavern, p api.GasPoint, volume int, rule api.GasRule) bool {
	force := (p.Gas*c.Factors[0] + p.Hydrogen*c.Factors[1]) * p.Heat * 8314
	switch rule {
	case api.GasLow:
		return force < c.Least*volume*10000000
	case api.GasHigh:
		return force > c.Most*volume*10000000
	case api.GasThin:
		return 1000*p.Hydrogen < c.Purity.Low*(p.Gas+p.Hydrogen)
	}
	return 1000*p.Hydrogen > c.Purity.High*(p.Gas+p.Hydrogen)
}

// ruleOf returns the first of some rules that a content of a state breaks, from all contents and volumes.
func ruleOf(c api.GasCavern, s api.GasState, rules ...api.GasRule) api.GasRule {
	all := contents(s)
	for _, rule := range rules {
		for _, p := range all {
			for volume := c.Volume.Low; volume <= c.Volume.High; volume++ {
				if wrong(c, p, volume, rule) {
					return rule
				}
			}
		}
	}
	return api.GasFine
}

// done returns what Do says of an operation that can be done.
func done(t *testing.T, c api.GasCavern, s api.GasState, op api.GasOp) (api.GasState, api.GasOut) {
	t.Helper()
	after, gone, e := gas.Do(c, s, op)
	if e != api.OK {
		t.Fatal(c, s, op, e)
	}
	return after, gone
}

// bad is a change that makes something that is as defined something that is not.
type bad[T any] struct {
	name   string
	change func(*T)
}

func badCaverns() []bad[api.GasCavern] {
	return []bad[api.GasCavern]{
		{"no volume", func(c *api.GasCavern) { c.Volume.Low = 0 }},
		{"Volume less than 0", func(c *api.GasCavern) { c.Volume.Low = -1 }},
		{"Volume turned", func(c *api.GasCavern) { c.Volume.Low = 1101 }},
		{"Volume too great", func(c *api.GasCavern) { c.Volume.High = api.GasVolume + 1 }},
		{"Least less than 0", func(c *api.GasCavern) { c.Least = -1 }},
		{"Least more than Most", func(c *api.GasCavern) { c.Least = 9001 }},
		{"Most too great", func(c *api.GasCavern) { c.Most = api.GasPressure + 1 }},
		{"first factor too small", func(c *api.GasCavern) { c.Factors[0] = 499 }},
		{"first factor too great", func(c *api.GasCavern) { c.Factors[0] = 2001 }},
		{"second factor too small", func(c *api.GasCavern) { c.Factors[1] = 499 }},
		{"second factor too great", func(c *api.GasCavern) { c.Factors[1] = 2001 }},
		{"first heat too small", func(c *api.GasCavern) { c.Heats[0] = 0 }},
		{"first heat too great", func(c *api.GasCavern) { c.Heats[0] = 101 }},
		{"second heat too small", func(c *api.GasCavern) { c.Heats[1] = 0 }},
		{"second heat too great", func(c *api.GasCavern) { c.Heats[1] = 101 }},
		{"Rock too cold", func(c *api.GasCavern) { c.Rock = api.GasCold - 1 }},
		{"Rock too hot", func(c *api.GasCavern) { c.Rock = api.GasHot + 1 }},
		{"Purity less than 0", func(c *api.GasCavern) { c.Purity.Low = -1 }},
		{"Purity turned", func(c *api.GasCavern) { c.Purity.Low = 101 }},
		{"Purity too great", func(c *api.GasCavern) { c.Purity.High = 1001 }},
	}
}

func badStates() []bad[api.GasState] {
	return []bad[api.GasState]{
		{"Gas less than 0", func(s *api.GasState) { s.Gas.Low = -1 }},
		{"Gas turned", func(s *api.GasState) { s.Gas.Low = 2101 }},
		{"Gas too great", func(s *api.GasState) { s.Gas.High = api.GasMoles + 1 }},
		{"Hydrogen less than 0", func(s *api.GasState) { s.Hydrogen.Low = -1 }},
		{"Hydrogen turned", func(s *api.GasState) { s.Hydrogen.Low = 111 }},
		{"Hydrogen too great", func(s *api.GasState) { s.Hydrogen.High = api.GasMoles + 1 }},
		{"Heat too cold", func(s *api.GasState) { s.Heat.Low = api.GasCold - 1 }},
		{"Heat turned", func(s *api.GasState) { s.Heat.Low = 3101 }},
		{"Heat too hot", func(s *api.GasState) { s.Heat.High = api.GasHot + 1 }},
		{"Water less than 0", func(s *api.GasState) { s.Water.Low = -1 }},
		{"Water turned", func(s *api.GasState) { s.Water.Low = 60001 }},
		{"Water too great", func(s *api.GasState) { s.Water.High = api.GasWater + 1 }},
	}
}

func badPoints() []bad[api.GasPoint] {
	return []bad[api.GasPoint]{
		{"Gas less than 0", func(p *api.GasPoint) { p.Gas = -1 }},
		{"Gas too great", func(p *api.GasPoint) { p.Gas = api.GasMoles + 1 }},
		{"Hydrogen less than 0", func(p *api.GasPoint) { p.Hydrogen = -1 }},
		{"Hydrogen too great", func(p *api.GasPoint) { p.Hydrogen = api.GasMoles + 1 }},
		{"Heat too cold", func(p *api.GasPoint) { p.Heat = api.GasCold - 1 }},
		{"Heat too hot", func(p *api.GasPoint) { p.Heat = api.GasHot + 1 }},
		{"Water less than 0", func(p *api.GasPoint) { p.Water = -1 }},
		{"Water too great", func(p *api.GasPoint) { p.Water = api.GasWater + 1 }},
	}
}

// badOps returns operations that are not as defined, by their names.
func badOps() map[string]api.GasOp {
	l := map[string]api.GasOp{
		"no kind":                     {},
		"a kind below all":            {Kind: -1},
		"a kind above all":            {Kind: api.GasRest + 1},
		"a lot that is none":          {Kind: api.GasInject},
		"less than nothing":           withdraw(-1),
		"more than there can be":      withdraw(2*api.GasMoles + 1),
		"a share less than 0":         rest(span(-1, 5), exactly(0)),
		"a share turned":              rest(span(6, 5), exactly(0)),
		"a share too great":           rest(span(0, 1001), exactly(0)),
		"wet less than 0":             rest(exactly(0), span(-1, 5)),
		"wet turned":                  rest(exactly(0), span(6, 5)),
		"too wet":                     rest(exactly(0), span(0, api.GasWet+1)),
		"a withdrawal with a lot":     {Kind: api.GasWithdraw, Lot: exampleLot()},
		"a withdrawal with a heat":    {Kind: api.GasWithdraw, Lot: api.GasPoint{Heat: 3000}},
		"a withdrawal with a share":   {Kind: api.GasWithdraw, Share: span(0, 1)},
		"a withdrawal with wet":       {Kind: api.GasWithdraw, Wet: span(0, 1)},
		"a rest with a lot":           {Kind: api.GasRest, Lot: exampleLot()},
		"a rest with a lot's water":   {Kind: api.GasRest, Lot: api.GasPoint{Water: 1}},
		"a rest with moles":           {Kind: api.GasRest, Moles: 1},
		"an injection with moles":     {Kind: api.GasInject, Lot: exampleLot(), Moles: 1},
		"an injection with a share":   {Kind: api.GasInject, Lot: exampleLot(), Share: span(0, 1)},
		"an injection with a low":     {Kind: api.GasInject, Lot: exampleLot(), Share: span(-1, 0)},
		"an injection with wet":       {Kind: api.GasInject, Lot: exampleLot(), Wet: span(0, 1)},
		"an injection with less than": {Kind: api.GasInject, Lot: exampleLot(), Moles: -1},
	}
	for _, b := range badPoints() {
		lot := exampleLot()
		b.change(&lot)
		l["a lot: "+b.name] = inject(lot)
	}
	return l
}
