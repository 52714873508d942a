package plant

import (
	"iter"
	"slices"

	"saltdome/api"
)

const (
	// wattHour is what a watt hour costs if a start costs 1: more than all starts that there can be.
	wattHour = api.PlantMachines*api.PlantHours + 1
	// never is more than any cost.
	never = 1 << 60
)

// joint is to which stands all machines have come ahead of an hour; or of which kins these stands are.
type joint struct {
	hour   int
	stands [api.PlantMachines]int32
}

// found is what is known of the cost from a joint on: it is at least so much, or just as much.
type found struct {
	cost  int
	exact bool
}

// planner looks for the best schedule of some hours.
type planner struct {
	courses []*course
	// twins are, for each machine, the last one ahead of it that is alike; -1, if there is none.
	twins []int
	// prices are, for each hour, what the sets of machines that run cost; never, if they do not carry the flow.
	prices [][]int
	// No schedule costs more than most, and no price and no start more than dearest.
	most, dearest int
	// fine is how many parts a cost of 1 is, and rests are what the hours from each one on pay.
	fine   int
	rests  []int
	known  map[joint]found
	rivals map[joint][]rival
}

func newPlanner(v survey, hours []api.PlantHour) *planner {
	p := &planner{rests: make([]int, len(hours)+1), known: map[joint]found{}, rivals: map[joint][]rival{}}
	for _, h := range hours {
		prices, dearest := v.prices(h)
		p.prices = append(p.prices, prices)
		p.mayCost(dearest, 1)
	}
	for i, m := range v.machines {
		p.add(i, m)
		p.mayCost(startCost(m), len(hours))
	}
	for i, c := range p.courses {
		if p.twins[i] < 0 {
			c.grow()
		}
	}
	for _, c := range p.courses {
		c.worths = make([]int, len(c.stands))
	}
	return p
}

// mayCost takes into account that something can cost so much, so many times.
func (p *planner) mayCost(cost, times int) {
	p.most += cost * times
	p.dearest = max(p.dearest, cost)
}

// prices returns what the sets of machines that run cost in an hour, and the greatest of these costs.
func (v survey) prices(h api.PlantHour) ([]int, int) {
	prices, dearest := make([]int, 1<<len(v.machines)), 0
	for s := range prices {
		prices[s] = never
		if v.carry(set(s), h.Flow, h.Ratio) {
			prices[s] = wattHour * bounds(v.energies(set(s), h)...).High
			dearest = max(dearest, prices[s])
		}
	}
	return prices, dearest
}

// add adds a machine: it has the paths of those that are alike.
func (p *planner) add(i int, m machine) {
	paths, twin := newPaths(m, len(p.prices)), -1
	for j, c := range p.courses {
		if alike(c.machine, m) {
			paths, twin = c.paths, j
		}
	}
	p.courses = append(p.courses, &course{paths: paths, number: i, first: paths.stand(place{0, m.first()})})
	p.twins = append(p.twins, twin)
}

// best returns the best schedule and its greatest energy; false, if each one has a fault. At first nothing but the fees costs anything: if all pay some even then, there is no schedule without faults.
func (v survey) best(hours []api.PlantHour) ([][]api.PlantState, int, bool) {
	p := newPlanner(v, hours)
	if !p.possible() || !p.settle(0) || !p.settle(parts/p.dearest) {
		return nil, 0, false
	}
	cost := p.least()
	if cost > p.most {
		return nil, 0, false
	}
	return p.schedule(cost), cost / wattHour, true
}

// possible reports whether each machine, and each hour, could do something without a fault if it was for itself.
func (p *planner) possible() bool {
	return !slices.ContainsFunc(p.courses, func(c *course) bool { return c.isDead(c.first) }) &&
		!slices.ContainsFunc(p.prices, func(prices []int) bool { return slices.Min(prices) == never })
}

// start returns the joint ahead of the first hour.
func (p *planner) start() joint {
	var at joint
	for i, c := range p.courses {
		at.stands[i] = c.first
	}
	return at
}

// least returns the least cost of a schedule; more than the most, if there is none. The closer the limit of a search is to that cost, the less has to be gone through; so it is raised step by step.
func (p *planner) least() int {
	at := p.start()
	first := p.bound(at)
	for limit := first; ; {
		cost := p.cost(at, limit)
		if cost <= limit || cost > p.most {
			return cost
		}
		limit = min(p.most, cost+cost-first)
	}
}

// bound returns what all pay from a joint on, so that it costs no less.
func (p *planner) bound(at joint) int {
	pays := p.rests[at.hour]
	for i, c := range p.courses {
		pays += c.worths[at.stands[i]]
	}
	return max(0, (pays+p.fine-1)/p.fine)
}

// choice is what all machines do in an hour: where they come to, what it costs, and what it costs at least with all later hours.
type choice struct {
	does        [api.PlantMachines]api.PlantState
	next        joint
	cost, bound int
}

// choices goes through all that machines can do at a joint, in lexicographic order.
func (p *planner) choices(at joint) iter.Seq[choice] {
	return func(yield func(choice) bool) {
		var options [api.PlantMachines][]option
		count := 1
		for i, c := range p.courses {
			options[i] = c.stands[at.stands[i]].options
			count *= len(options[i])
		}
	codes:
		for code := range count {
			c := choice{next: joint{hour: at.hour + 1}}
			runs, served := set(0), set(0)
			for i := len(p.courses) - 1; i >= 0; i-- {
				o := options[i][code%len(options[i])]
				code /= len(options[i])
				c.does[i], c.next.stands[i] = o.does, o.next
				c.cost += o.cost
				switch {
				case o.does == api.PlantRuns:
					runs = runs.with(i)
				case o.does == api.PlantServed && served != 0:
					continue codes
				case o.does == api.PlantServed:
					served = served.with(i)
				}
			}
			price := p.prices[at.hour][runs]
			c.cost += price
			c.bound = c.cost + p.bound(c.next)
			if price < never && !yield(c) {
				return
			}
		}
	}
}

// cost returns what it costs at least from a joint on, if that is within a limit; otherwise a number beyond the limit that is no more than that.
func (p *planner) cost(at joint, limit int) int {
	if at.hour == len(p.prices) {
		return 0
	}
	at = p.sorted(at)
	if f, ok := p.known[at]; ok && (f.exact || f.cost > limit) {
		return f.cost
	}
	if cost := p.outdone(at); cost > limit {
		return cost
	}
	cost := never
	var open []choice
	for c := range p.choices(at) {
		if c.bound > limit {
			cost = min(cost, c.bound)
		} else {
			open = append(open, c)
		}
	}
	for _, c := range ordered(open, func(c choice) int { return c.bound }) {
		if c.bound >= cost {
			break
		}
		cost = min(cost, c.cost+p.cost(c.next, min(limit, cost-1)-c.cost))
	}
	p.keep(at, found{cost, cost <= limit})
	return cost
}

// sorted returns a joint from which on it costs as much: the stands of machines that are alike are in order.
func (p *planner) sorted(at joint) joint {
	for i := range p.courses {
		for k, j := i, p.twins[i]; j >= 0 && at.stands[j] > at.stands[k]; k, j = j, p.twins[j] {
			at.stands[j], at.stands[k] = at.stands[k], at.stands[j]
		}
	}
	return at
}

// schedule returns the first schedule that costs so much, which is the least.
func (p *planner) schedule(cost int) [][]api.PlantState {
	var l [][]api.PlantState
	for at := p.start(); at.hour < len(p.prices); {
		for c := range p.choices(at) {
			if c.bound <= cost && c.cost+p.cost(c.next, cost-c.cost) == cost {
				l = append(l, slices.Clone(c.does[:len(p.courses)]))
				at, cost = c.next, cost-c.cost
				break
			}
		}
	}
	return l
}
