package leach

import (
	"slices"

	"saltdome/api"
)

// micro is how many millilitres a cubic metre has, and how many microlitres a litre.
const micro = 1000000

// takes returns how many litres a cubic metre of water takes from each slice that has some rate.
func (x inquiry) takes(s api.LeachStage, rates []int) []int {
	l := make([]int, len(x.Slices))
	left := x.Hold
	for i := range path(s.In, s.Out) {
		l[i] = min(rates[i], left)
		left -= l[i]
	}
	return l
}

// wash does a stage.
func (x inquiry) wash(end *api.LeachEnd, s api.LeachStage, rates []int) {
	var salt []litres
	var opened, fallen []millilitres
	for i, l := range x.takes(s, rates) {
		l *= s.Water
		salt = append(salt, litres(l))
		opened = append(opened, millilitres(l*x.Slices[i].Open))
		fallen = append(fallen, millilitres(l*x.Slices[i].Fall))
		end.Volumes[i] += int(opened[i])
	}
	taken := int(sum(salt...))
	room := int(sum(opened...) - sum(fallen...))
	end.Sump += int(sum(fallen...))
	end.Salt += taken
	end.Brine += s.Water*micro - room
	end.Out += taken*micro - x.Hold*room
}

// play does some stages with what is true.
func (x inquiry) play(stages []api.LeachStage, t api.LeachTruth) api.LeachEnd {
	end := api.LeachEnd{Volumes: slices.Clone(t.Volumes)}
	for k, s := range stages {
		x.wash(&end, s, t.Rates[k])
	}
	return end
}

// grade returns the bounds of the strength of a stage's brine. A litre of salt more never makes brine weaker, and brine of full water is as strong as can be: so the least rates make the weakest brine, and the greatest ones the strongest.
func (x inquiry) grade(s api.LeachStage) (api.Frac, api.Frac) {
	var least, most []int
	for _, l := range x.Slices {
		least = append(least, l.Rate.Low)
		most = append(most, l.Rate.High)
	}
	return x.strength(s, least), x.strength(s, most)
}

// strength returns the strength of a stage's brine if the slices have some rates.
func (x inquiry) strength(s api.LeachStage, rates []int) api.Frac {
	end := api.LeachEnd{Volumes: make([]int, len(x.Slices))}
	x.wash(&end, s, rates)
	d := divisor(end.Out, end.Brine)
	return api.Frac{Num: end.Out / d, Den: end.Brine / d}
}

// divisor returns the greatest common divisor of two numbers that are not less than 0, and not both 0.
func divisor(a, b int) int {
	for b > 0 {
		a, b = b, a%b
	}
	return a
}
