package leach

import "saltdome/api"

// programme is a cavern with stages. A rule tells whether the stage k breaks it, and Of.
type programme struct {
	inquiry
	stages []api.LeachStage
}

// fault returns the first fault of a programme.
func (p programme) fault() (int, api.LeachRule, int) {
	for k := range p.stages {
		if rule, of := p.faultOf(k); rule != api.LeachFine {
			return k, rule, of
		}
	}
	return -1, api.LeachFine, 0
}

// faultOf returns the first fault of a stage.
func (p programme) faultOf(k int) (api.LeachRule, int) {
	rules := [...]func(int) (int, bool){
		api.LeachRoof:   p.roof,
		api.LeachBuried: p.buried,
		api.LeachOiled:  p.oiled,
		api.LeachWide:   p.wide,
	}
	for rule := api.LeachRoof; rule <= api.LeachWide; rule++ {
		if of, broken := rules[rule](k); broken {
			return rule, of
		}
	}
	return api.LeachFine, 0
}

// roof: water would come to the blanket.
func (p programme) roof(k int) (int, bool) {
	s := p.stages[k]
	top := max(s.In, s.Out)
	return top, top >= s.Blanket
}

// buried: the sump can come up to the lower string, ahead of the stage or behind it.
func (p programme) buried(k int) (int, bool) {
	low := min(p.stages[k].In, p.stages[k].Out)
	over := volumeOf(0, low).negated()
	over.sump = 1
	return low, p.greatest(p.stages[:k], over) > 0 || p.greatest(p.stages[:k+1], over) > 0
}

// oiled: the blanket can need more oil than there is.
func (p programme) oiled(k int) (int, bool) {
	blanket := p.stages[k].Blanket
	need := volumeOf(blanket, len(p.Slices)-1)
	return blanket, int(p.greatest(p.stages[:k], need)) > p.Oil
}

// wide: a slice can get too great.
func (p programme) wide(k int) (int, bool) {
	for i, s := range p.Slices {
		if p.volume(p.stages[:k+1], i).High > s.Most {
			return i, true
		}
	}
	return 0, false
}
