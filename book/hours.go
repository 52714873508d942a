package book

import (
	"slices"

	"saltdome/api"
)

// rateOf returns the rate of a contract with some gas.
func rateOf(c api.BookContract, gas int) api.BookRate {
	fill := perMille * gas / c.Space
	rate := c.Rates[0]
	for _, r := range c.Rates {
		if r.Fill <= fill {
			rate = r
		}
	}
	return rate
}

// counts returns the index of the nomination that counts for a contract and an hour, or none.
func (s store) counts(noms []api.BookNom, contract, hour int) int {
	last := none
	for i, n := range noms {
		if n.Contract == contract && n.Hour == hour && n.Sent+s.Lead <= hour && (last == none || n.Sent >= noms[last].Sent) {
			last = i
		}
	}
	return last
}

// first returns the state at first.
func (s store) first() api.BookState {
	x := api.BookState{Bills: make([]int, len(s.Contracts))}
	for _, c := range s.Contracts {
		x.Gas = append(x.Gas, c.Gas)
	}
	return x
}

// run is a day of a store: the state to which it has come, and what has become of the last hour.
type run struct {
	store
	day   api.BookDay
	state api.BookState
	flow  api.BookFlow
}

// newRun returns a day from a state on, which stays as it is.
func newRun(s api.BookStore, x api.BookState, d api.BookDay) *run {
	x.Gas, x.Bills, x.Owed = slices.Clone(x.Gas), slices.Clone(x.Bills), slices.Clone(x.Owed)
	return &run{store: store{s}, day: d, state: x}
}

// hour lets an hour happen.
func (r *run) hour() {
	r.flow = api.BookFlow{}
	steps := [...]func(){r.loans, r.trades, r.wants, r.grants, r.flows, r.gas, r.bills}
	for _, step := range steps {
		step()
	}
	r.state.Hour++
}

// now returns what the day says of the hour.
func (r *run) now() api.BookHour { return r.day.Hours[r.state.Hour] }

// room returns what a contract has room for.
func (r *run) room(contract int) int { return r.Contracts[contract].Space - r.state.Gas[contract] }

// pass passes gas from a contract to another one.
func (r *run) pass(from, to, amount int) {
	r.state.Gas[from] -= amount
	r.state.Gas[to] += amount
}

func (r *run) loans() {
	var owed []api.BookTrade
	for _, t := range r.state.Owed {
		if t.Back == r.state.Hour {
			r.giveBack(t)
		} else {
			owed = append(owed, t)
		}
	}
	r.state.Owed = owed
}

// giveBack gives back what was lent.
func (r *run) giveBack(t api.BookTrade) {
	has := r.state.Gas[t.To]
	r.pass(t.To, t.From, min(t.Amount, has, r.room(t.From)))
	pays := r.Contracts[t.To].Lack * max(0, t.Amount-has)
	r.state.Bills[t.To] += pays
	r.state.Bills[t.From] -= pays
}

func (r *run) trades() {
	for i, t := range r.day.Trades {
		switch {
		case t.Hour != r.state.Hour:
		case r.refuses(t):
			r.flow.Refused = append(r.flow.Refused, i)
		default:
			r.pass(t.From, t.To, t.Amount)
			r.owe(t)
		}
	}
}

// refuses reports whether a trade is refused.
func (r *run) refuses(t api.BookTrade) bool {
	return r.state.Gas[t.From] < t.Amount || r.room(t.To) < t.Amount || isLoan(t) && len(r.state.Owed) >= api.BookTrades
}

// owe puts down a trade, if it is a loan.
func (r *run) owe(t api.BookTrade) {
	if isLoan(t) {
		r.state.Owed = append(r.state.Owed, t)
	}
}

func (r *run) wants() {
	r.flow.Wants = make([]int, len(r.Contracts))
	for i, c := range r.active(r.state.Hour) {
		if last := r.counts(r.day.Noms, i, r.state.Hour); last != none {
			rate := rateOf(c, r.state.Gas[i])
			most, least := min(rate.In, r.room(i)), -min(rate.Out, r.state.Gas[i])
			r.flow.Wants[i] = max(least, min(most, r.day.Noms[last].Amount))
		}
	}
}

func (r *run) grants() {
	now := r.now()
	r.flow.Grants = r.granted(r.flow.Wants, now.In, now.Out)
}

func (r *run) flows() {
	now := r.now()
	r.flow.Flows = make([]int, len(r.Contracts))
	r.divide(inward, now.FlowIn)
	r.divide(outward, now.FlowOut)
}

// divide divides what flowed one way among what was granted; the rest is the store's.
func (r *run) divide(w way, flowed int) {
	shares, rest := share(flowed, r.flow.Grants, func(_, grant int) int { return w.kilos(grant) })
	w.add(r.flow.Flows, shares)
	r.state.Own += int(w) * rest
}

func (r *run) gas() {
	for i, flow := range r.flow.Flows {
		fuel := inward.kilos(flow) * r.Fuel / perMille
		r.state.Fuel += fuel
		r.state.Gas[i] += flow - fuel
	}
}

func (r *run) bills() {
	for i, c := range r.active(r.state.Hour) {
		flow, cut := r.flow.Flows[i], r.flow.Wants[i]-r.flow.Grants[i]
		r.state.Bills[i] += c.Fixed + c.In*inward.kilos(flow) + c.Out*outward.kilos(flow)
		if c.Firm {
			r.state.Bills[i] -= c.Cut * (inward.kilos(cut) + outward.kilos(cut))
		}
	}
}
