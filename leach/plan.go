package leach

import (
	"cmp"
	"slices"

	"saltdome/api"
)

// planner is a cavern for which a plan is wanted.
type planner struct {
	inquiry
	menu []api.LeachStage
	want []int
}

// best returns the best plan. Plans without faults get longer by one stage at a time, and are asked in the order of their water, which keeps their lexicographic order: the first one that makes the shape is the best.
func (p planner) best() ([]int, bool) {
	var best []int
	found := false
	plans := [][]int{nil}
search:
	for length := range api.LeachPlan + 1 {
		if length > 0 {
			plans = p.longer(plans)
		}
		byWater := slices.SortedStableFunc(slices.Values(plans), func(a, b []int) int {
			return cmp.Compare(p.water(a), p.water(b))
		})
		for _, plan := range byWater {
			if p.makes(plan) {
				best, found = plan, true
				break search
			}
		}
	}
	return best, found
}

// longer returns all plans without faults that have one stage more than some plans without faults, in lexicographic order.
func (p planner) longer(plans [][]int) [][]int {
	var l [][]int
	for _, plan := range plans {
		for i := range p.menu {
			next := append(slices.Clone(plan), i)
			if rule, _ := (programme{p.inquiry, p.stages(next)}).faultOf(len(plan)); rule == api.LeachFine {
				l = append(l, next)
			}
		}
	}
	return l
}

// stages returns the stages of a plan.
func (p planner) stages(plan []int) []api.LeachStage {
	l := make([]api.LeachStage, len(plan))
	for k, i := range plan {
		l[k] = p.menu[i]
	}
	return l
}

// water returns the water of a plan.
func (p planner) water(plan []int) int {
	all := 0
	for _, i := range plan {
		all += p.menu[i].Water
	}
	return all
}

// makes reports whether each slice has at least its number behind a plan, whatever is true.
func (p planner) makes(plan []int) bool {
	stages := p.stages(plan)
	for i, n := range p.want {
		if p.volume(stages, i).Low < n {
			return false
		}
	}
	return true
}

// least returns the least number of stages; false, if there is none.
func (p planner) least() (int, bool) {
	number := 0
	for i, s := range p.Slices {
		missing := p.want[i] - s.Volume.Low
		if missing <= 0 {
			continue
		}
		most := p.surest(i)
		if most == 0 {
			return 0, false
		}
		number = max(number, (missing+most-1)/most)
	}
	return number, true
}

// surest returns the most by which a stage of the menu surely makes a slice greater.
func (p planner) surest(slice int) int {
	most := 0
	for _, s := range p.menu {
		most = max(most, p.rates(s)[slice].Low*s.Water*p.Slices[slice].Open)
	}
	return most
}
