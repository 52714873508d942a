package plant

import "saltdome/api"

// A search of schedules must not go through all of them to find that none is better. So it asks what all would pay if each machine was for itself, and paid a fee to each hour in which it runs, and to the crew for each hour in which it is serviced. An hour, for itself, pays the energy of the machines that run, and gets their fees; the crew gets a fee from one machine an hour at most. What is paid in fees is got, so whatever the fees are, no schedule costs less than what machines, hours and the crew pay together if each of them does what is best for itself. The fees are raised where more machines want to run than the hour wants, and lowered where fewer do, so that this becomes as much as it can.

const (
	// parts is into how many parts the dearest thing is divided at least, so that fees can be fine.
	parts = 1 << 40
	// coarse is the step with which fees are changed at first; a step that is not above enough changes too little.
	coarse = parts >> 3
	enough = parts >> 24
	// rounds is how often fees are changed at most.
	rounds = 400
	// crew is the row of the crew, behind those of the machines.
	crew = api.PlantMachines
)

// table has a number for each machine, and for the crew, in each hour.
type table [api.PlantMachines + 1][api.PlantHours]int

// tariff is what is paid: so many parts for a cost of 1, and the fees.
type tariff struct {
	fine int
	fees table
}

// course is what a machine can do for itself, from its first stand on.
type course struct {
	*paths
	number int
	first  int32
	// worths are what the machine pays from each stand on.
	worths []int
}

// price returns what the machine pays for an option in an hour.
func (c *course) price(t *tariff, hour int, o option) int {
	price := t.fine * o.cost
	switch o.does {
	case api.PlantRuns:
		price += t.fees[c.number][hour]
	case api.PlantServed:
		price += t.fees[crew][hour]
	}
	return price
}

// cheapest returns the option at a stand with which the machine pays least, and what it pays from there on.
func (c *course) cheapest(t *tariff, s *stand) (option, int) {
	var best option
	least := never
	for _, o := range s.options {
		if pays := c.price(t, s.hour, o) + c.worths[o.next]; pays < least {
			best, least = o, pays
		}
	}
	return best, least
}

// pays returns what the machine pays, and adds to the excess what it wants.
func (c *course) pays(t *tariff, excess *table) int {
	for n := len(c.stands) - 1; n >= 0; n-- {
		if s := &c.stands[n]; s.hour < c.hours {
			_, c.worths[n] = c.cheapest(t, s)
		}
	}
	for n := c.first; c.stands[n].hour < c.hours; {
		s := &c.stands[n]
		o, _ := c.cheapest(t, s)
		switch o.does {
		case api.PlantRuns:
			excess[c.number][s.hour]++
		case api.PlantServed:
			excess[crew][s.hour]++
		}
		n = o.next
	}
	return c.worths[c.first]
}

// hourPays returns what an hour and the crew pay, and takes from the excess what they want.
func (p *planner) hourPays(hour int, t *tariff, excess *table) int {
	least, wanted := never, set(0)
	for s, price := range p.prices[hour] {
		if price == never {
			continue
		}
		pays := t.fine * price
		for i := range p.courses {
			if set(s).has(i) {
				pays -= t.fees[i][hour]
			}
		}
		if pays < least {
			least, wanted = pays, set(s)
		}
	}
	for i := range p.courses {
		if wanted.has(i) {
			excess[i][hour]--
		}
	}
	if t.fees[crew][hour] > 0 {
		excess[crew][hour]--
	}
	return least - t.fees[crew][hour]
}

// pay returns what all pay, and the excess: by how many more something is wanted to pay for than to be paid for. What machines pay from each stand on is kept, and what hours pay from each one on.
func (p *planner) pay(t *tariff) (int, table) {
	var excess table
	all := 0
	for hour := len(p.prices) - 1; hour >= 0; hour-- {
		all += p.hourPays(hour, t, &excess)
		p.rests[hour] = all
	}
	for _, c := range p.courses {
		all += c.pays(t, &excess)
	}
	return all, excess
}

// settle finds fees with which all pay much, if a cost of 1 is so many parts; false, if that is more than any schedule costs, so that there is none.
func (p *planner) settle(fine int) bool {
	p.fine = fine
	now := tariff{fine: fine}
	best, most := now, -never
	var drift table
	for round, step := 0, coarse; round < rounds && step > enough; round++ {
		pays, excess := p.pay(&now)
		switch {
		case pays > fine*p.most:
			return false
		case pays > most:
			best, most = now, pays
		default:
			step = step * 19 / 20
		}
		if excess == (table{}) {
			break
		}
		now.fees.change(&drift, excess, step)
	}
	p.pay(&best)
	return true
}

// change changes fees for an excess, and still somewhat for those of the rounds before, since without that fees go to and fro.
func (t *table) change(drift *table, excess table, step int) {
	const unit = 64
	for i := range t {
		for hour := range t[i] {
			drift[i][hour] = drift[i][hour]*4/5 + unit*excess[i][hour]
			t[i][hour] += step * drift[i][hour] / unit
		}
	}
	for hour := range t[crew] {
		t[crew][hour] = max(0, t[crew][hour])
	}
}
