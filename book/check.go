package book

import (
	"saltdome/api"
	"saltdome/valid"
)

const (
	// perMille is what fills and fuel are parts of.
	perMille = 1000
	// mostFlow is the most that a store has room for, and that goes in or out in an hour.
	mostFlow = 8 * api.BookKilos
	// mostKilos and mostBill bound what is the store's own, what was fuel, and bills.
	mostKilos = 1_000_000_000_000
	mostBill  = 1_000_000_000_000_000
	// none is the Back of a trade that is no loan, and the index of no nomination.
	none = -1
)

// validKilos reports whether a number is one of kilograms in an hour, of one contract.
func validKilos(n int) bool { return valid.Within(n, 0, api.BookKilos) }

// validAmount reports whether a number is an amount, in or out.
func validAmount(n int) bool { return valid.Within(n, -api.BookKilos, api.BookKilos) }

// validFlow reports whether a number is one of kilograms of all contracts together.
func validFlow(n int) bool { return valid.Within(n, 0, mostFlow) }

func validPrice(n int) bool { return valid.Within(n, 0, api.BookPrice) }

// validHour reports whether a number is one of an hour.
func validHour(hour int) bool { return valid.Within(hour, 0, api.BookHours-1) }

// validHours reports whether a span is one of hours.
func validHours(s api.Span) bool { return valid.Span(s, api.BookHours-1) }

// validIndex reports whether a number is the index of one of some contracts.
func validIndex(n, contracts int) bool { return valid.Within(n, 0, contracts-1) }

// validGas reports whether a contract can have some gas.
func validGas(c api.BookContract, gas int) bool { return valid.Within(gas, 0, c.Space) }

func validRate(r api.BookRate) bool {
	return valid.Within(r.Fill, 0, perMille) && validKilos(r.In) && validKilos(r.Out)
}

// validRates reports whether the rates of a contract are as defined.
func validRates(l []api.BookRate) bool {
	if !valid.Within(len(l), 1, api.BookRates) || l[0].Fill != 0 || !valid.All(l, validRate) {
		return false
	}
	for i, r := range l[1:] {
		if before := l[i]; r.Fill <= before.Fill || r.In > before.In || r.Out < before.Out {
			return false
		}
	}
	return true
}

// validContract reports whether a contract is as defined.
func validContract(c api.BookContract) bool {
	return valid.Within(c.Space, 1, api.BookKilos) && validHours(c.Hours) && validRates(c.Rates) && validGas(c, c.Gas) &&
		validPrice(c.Fixed) && validPrice(c.In) && validPrice(c.Out) && validPrice(c.Cut) && validPrice(c.Lack)
}

// validStore reports whether a store is as defined. Only what is in bounds can be added up to see whether it is sold twice.
func validStore(s api.BookStore) bool {
	return validFlow(s.Space) && validFlow(s.In) && validFlow(s.Out) &&
		valid.Within(s.Lead, 0, api.BookHours) && valid.Within(s.Fuel, 0, perMille) &&
		len(s.Contracts) <= api.BookContracts && valid.All(s.Contracts, validContract) && !store{s}.sellsTwice()
}

// validNoms reports whether nominations are as defined for a store with so many contracts.
func validNoms(l []api.BookNom, contracts int) bool {
	return valid.All(l, func(n api.BookNom) bool {
		return validIndex(n.Contract, contracts) && validHour(n.Hour) && validHour(n.Sent) && validAmount(n.Amount)
	})
}

// isLoan reports whether a trade is a loan.
func isLoan(t api.BookTrade) bool { return t.Back != none }

// validTrade reports whether a trade is as defined for a store with so many contracts.
func validTrade(t api.BookTrade, contracts int) bool {
	return validHour(t.Hour) && (!isLoan(t) || valid.Within(t.Back, t.Hour+1, api.BookHours-1)) &&
		validIndex(t.From, contracts) && validIndex(t.To, contracts) && t.From != t.To && valid.Within(t.Amount, 1, api.BookKilos)
}

// validDay reports whether a day is as defined for a store with so many contracts.
func validDay(d api.BookDay, contracts int) bool {
	return len(d.Hours) <= api.BookHours && len(d.Noms) <= api.BookNoms && len(d.Trades) <= api.BookTrades &&
		valid.All(d.Hours, func(h api.BookHour) bool {
			return validFlow(h.In) && validFlow(h.Out) && validFlow(h.FlowIn) && validFlow(h.FlowOut)
		}) &&
		validNoms(d.Noms, contracts) &&
		valid.All(d.Trades, func(t api.BookTrade) bool { return validTrade(t, contracts) })
}

// validState reports whether a state is as defined for a store with these contracts.
func validState(x api.BookState, contracts []api.BookContract) bool {
	return valid.Within(x.Hour, 0, api.BookHours) && validGases(x.Gas, contracts) &&
		valid.Within(x.Own, -mostKilos, mostKilos) && valid.Within(x.Fuel, 0, mostKilos) &&
		len(x.Bills) == len(contracts) && valid.All(x.Bills, func(n int) bool { return valid.Within(n, -mostBill, mostBill) }) &&
		len(x.Owed) <= api.BookTrades && valid.All(x.Owed, func(t api.BookTrade) bool {
		return validTrade(t, len(contracts)) && isLoan(t) && t.Back >= x.Hour
	})
}

// validGases reports whether contracts can have the gas of a list.
func validGases(l []int, contracts []api.BookContract) bool {
	if len(l) != len(contracts) {
		return false
	}
	for i, c := range contracts {
		if !validGas(c, l[i]) {
			return false
		}
	}
	return true
}
