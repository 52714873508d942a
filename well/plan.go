package well

import (
	"slices"

	"saltdome/api"
)

// never is what a goal costs to which no operations lead: more than any other.
const never = 1 << 30

// prospect is what parts can come to be like on a day: their conditions, and how many tests can still fail.
type prospect struct {
	parts [api.WellPlan]condition
	fails int
}

// with returns the prospect in which a part is in some condition.
func (at prospect) with(part int, c condition) prospect {
	at.parts[part] = c
	return at
}

// planner looks for operations that lead to a goal.
type planner struct {
	survey
	goal []api.WellWant
	acts map[api.WellKind]operation
	// numbers are the numbers of barriers, by the sets of parts that are tight.
	numbers []int
	// known are the costs of the goal, by the sets of valves that are open.
	known map[prospect][]int
}

func newPlanner(v survey, goal []api.WellWant) *planner {
	p := &planner{survey: v, goal: goal, acts: operations(), known: map[prospect][]int{}}
	for tight := range set(1) << len(v.Parts) {
		p.numbers = append(p.numbers, v.number(tight))
	}
	return p
}

// start returns what the parts are like now, and which valves are open.
func (p *planner) start(fails int) (prospect, set) {
	at, open := prospect{fails: fails}, set(0)
	for part := range p.Parts {
		at = at.with(part, p.piece(part).condition())
		if p.Parts[part].Open {
			open = open.with(part)
		}
	}
	return at, open
}

// good returns the parts that are good at a prospect.
func (p *planner) good(at prospect) set {
	var all set
	for part := range p.Parts {
		if at.parts[part] == good {
			all = all.with(part)
		}
	}
	return all
}

// met reports whether the goal is met.
func (p *planner) met(at prospect, open set) bool {
	for _, want := range p.goal {
		if open.has(want.Part) != want.Open || want.Good && at.parts[want.Part] != good {
			return false
		}
	}
	return true
}

// choice is an operation that can be done at a prospect.
type choice struct {
	api.WellOp
	// open is whether the part has to be open.
	open bool
	cost int
	// turned is the valve that is opened or closed.
	turned set
	// ahead and behind are the parts that are good ahead of and behind the operation, if its test passes.
	ahead, behind set
	// costs are what the goal costs then, for each result that a test can have.
	costs [][]int
}

// choose returns an operation at a prospect, where the goal has some costs; false, if it cannot be done, or does nothing for the goal.
func (p *planner) choose(at prospect, op api.WellOp, costs []int) (choice, bool) {
	ahead := p.pieceAt(at, op)
	passed, cost, can := p.acts[op.Kind](ahead, true)
	c := choice{WellOp: op, open: ahead.Open, cost: cost}
	next := at.with(op.Part, passed.condition())
	c.ahead, c.behind = p.good(at), p.good(next)
	switch {
	case !can || next == at && passed.Open == ahead.Open:
		return choice{}, false
	case next == at:
		c.turned = c.turned.with(op.Part)
		c.costs = [][]int{costs}
		return c, true
	}
	c.costs = append(c.costs, p.costs(next))
	if failed, _, _ := p.acts[op.Kind](ahead, false); failed != passed && at.fails > 0 {
		next = at.with(op.Part, failed.condition())
		next.fails--
		c.costs = append(c.costs, p.costs(next))
	}
	return c, true
}

// pieceAt returns the part of an operation as it is at a prospect, open just if the operation closes it: no other operation is done on a part that is open. A part is old only if it was so from the beginning.
func (p *planner) pieceAt(at prospect, op api.WellOp) piece {
	ahead := p.piece(op.Part)
	ahead.Open = op.Kind == api.WellClose
	ahead.Bad = at.parts[op.Part] == bad
	if at.parts[op.Part] == good {
		ahead.Tested = p.day
	}
	return ahead
}

// choices returns all operations of some kinds at a prospect.
func (p *planner) choices(at prospect, costs []int, kinds ...api.WellKind) []choice {
	var all []choice
	for _, kind := range kinds {
		for part := range p.Parts {
			if c, ok := p.choose(at, api.WellOp{Kind: kind, Part: part}, costs); ok {
				all = append(all, c)
			}
		}
	}
	return all
}

// price returns what the goal costs if an operation is done first while some valves are open; never or more, if it does not lead there.
func (p *planner) price(c choice, open set) int {
	behind := open ^ c.turned
	number := func(tight set) int { return p.numbers[tight] }
	if open.has(c.Part) != c.open || !p.safe(c.WellOp, c.ahead&^open, c.behind&^behind, number) {
		return never
	}
	worst := 0
	for _, costs := range c.costs {
		worst = max(worst, costs[behind])
	}
	return c.cost + worst
}

// least returns the first item with the least cost, and that cost, if it is less than some number; otherwise that number.
func least[T any](items []T, number int, cost func(T) int) (T, int) {
	var first T
	for _, item := range items {
		if n := cost(item); n < number {
			first, number = item, n
		}
	}
	return first, number
}

// costs returns what the goal costs at a prospect, for each set of valves that are open. Tests and changes lead to other prospects, from which none leads back; only opening and closing can go round.
func (p *planner) costs(at prospect) []int {
	if known, ok := p.known[at]; ok {
		return known
	}
	costs := make([]int, len(p.numbers))
	for open := range costs {
		if !p.met(at, set(open)) {
			costs[open] = never
		}
	}
	p.lower(costs, p.choices(at, costs, api.WellTest, api.WellChange))
	turns := p.choices(at, costs, api.WellOpen, api.WellClose)
	for p.lower(costs, turns) {
	}
	p.known[at] = costs
	return costs
}

// lower lowers costs to those of operations that do with less, and reports whether any do.
func (p *planner) lower(costs []int, choices []choice) bool {
	lowered := false
	for open, cost := range costs {
		_, costs[open] = least(choices, cost, func(c choice) int { return p.price(c, set(open)) })
		lowered = lowered || costs[open] < cost
	}
	return lowered
}

// leads reports whether operations lead to the goal.
func (p *planner) leads() bool {
	at, open := p.start(0)
	return p.costs(at)[open] < never
}

// best returns the best operation, and what the goal costs; never, if no operations lead to it.
func (p *planner) best(fails int) (api.WellOp, int) {
	at, open := p.start(fails)
	if p.met(at, open) {
		return api.WellOp{}, 0
	}
	all := p.choices(at, p.costs(at), api.WellOpen, api.WellClose, api.WellTest, api.WellChange)
	c, cost := least(all, never, func(c choice) int { return p.price(c, open) })
	return c.WellOp, cost
}

// missing returns the index of the first want to which, alone, no operations lead; -1, if there is none.
func (v survey) missing(goal []api.WellWant) int {
	return slices.IndexFunc(goal, func(want api.WellWant) bool { return !newPlanner(v, []api.WellWant{want}).leads() })
}
