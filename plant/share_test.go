package plant_test

import (
	"math"
	"math/rand"
	"slices"
	"testing"

	"saltdome/api"
	"saltdome/plant"
)

// P5.1
func TestCheck(t *testing.T) {
	least := api.PlantMachine{Kind: api.PlantCompress, Rows: []api.PlantRow{row(1000, 0, 0, 0)}, Up: 1, Down: 1, Service: 1}
	most := api.PlantMachine{Kind: api.PlantDry, Start: api.PlantStart, Up: api.PlantTimes, Down: api.PlantTimes, Left: api.PlantTimes, Life: api.PlantTimes, Service: api.PlantTimes, Runs: true, Since: api.PlantTimes}
	for i := range api.PlantRows {
		most.Rows = append(most.Rows, row(api.PlantRatio-api.PlantRows+1+i, api.PlantFlow, api.PlantFlow, api.PlantEnergy))
	}
	for i, l := range [][]api.PlantMachine{example(), plantOf(least), plantOf(most), slices.Repeat(plantOf(most), api.PlantMachines), plantOf(machineM(), with(least, func(m *api.PlantMachine) { m.Kind = api.PlantCool }))} {
		if e := plant.Check(l); e != api.OK {
			t.Error(i, e)
		}
	}
	for name, l := range badPlants() {
		if e := plant.Check(l); e != api.ErrArg {
			t.Error(name, e)
		}
	}
}

// P5.1
func TestRow(t *testing.T) {
	m := machineM()
	for ratio, want := range map[int]api.PlantRow{
		1000:           m.Rows[0],
		1999:           m.Rows[0],
		2000:           m.Rows[0],
		2001:           m.Rows[1],
		3000:           m.Rows[1],
		3001:           {},
		api.PlantRatio: {},
	} {
		if r, e := plant.Row(m, ratio); e != api.OK || r != want {
			t.Error(ratio, r, e)
		}
	}
	for _, ratio := range []int{math.MinInt, 0, 999, api.PlantRatio + 1, math.MaxInt} {
		if r, e := plant.Row(m, ratio); e != api.ErrArg || r != (api.PlantRow{}) {
			t.Error(ratio, r, e)
		}
	}
	for _, b := range badMachines() {
		if r, e := plant.Row(with(m, b.change), 1500); e != api.ErrArg || r != (api.PlantRow{}) {
			t.Error(b.name, r, e)
		}
	}
}

// compressor returns a free compressor with a row of its own.
func compressor(least, most, energy int) api.PlantMachine {
	return with(free(0), func(m *api.PlantMachine) { m.Rows[0] = row(api.PlantRatio, least, most, energy) })
}

// ofKind returns a machine of another kind.
func ofKind(kind api.PlantKind, m api.PlantMachine) api.PlantMachine {
	m.Kind = kind
	return m
}

// P5.2: the examples of the chapter, and more.
func TestShare(t *testing.T) {
	both := []bool{true, true}
	mixed := plantOf(ofKind(api.PlantDry, compressor(0, 100, 7)), compressor(10, 50, 3), ofKind(api.PlantDry, compressor(20, 60, 2)), compressor(10, 50, 3))
	for name, x := range map[string]struct {
		l           []api.PlantMachine
		running     []bool
		flow, ratio int
		shares      []int
		prices      []int
		energy      int
	}{
		"350":                              {example(), both, 350, 1500, []int{300, 50}, []int{5, 0, 0}, 1800},
		"450 at a greater ratio":           {example(), both, 450, 2500, []int{250, 200}, []int{9, 0, 0}, 3450},
		"less than all take at least":      {example(), both, 120, 1500, []int{100, 20}, []int{0, 0, 0}, 800},
		"just what all take at least":      {example(), both, 150, 1500, []int{100, 50}, []int{0, 0, 0}, 800},
		"one more than that":               {example(), both, 151, 1500, []int{101, 50}, []int{5, 0, 0}, 805},
		"nothing":                          {example(), both, 0, 1500, []int{0, 0}, []int{0, 0, 0}, 800},
		"nothing, and none runs":           {example(), []bool{false, false}, 0, 1500, []int{0, 0}, []int{0, 0, 0}, 0},
		"as much as one can":               {example(), []bool{false, true}, 200, 3000, []int{0, 200}, []int{6, 0, 0}, 1200},
		"as much as all can":               {example(), both, 600, 2000, []int{400, 200}, []int{6, 0, 0}, 3200},
		"nothing, beyond the last row":     {example(), both, 0, 3001, []int{0, 0}, []int{0, 0, 0}, 0},
		"two kinds":                        {mixed, []bool{true, true, true, true}, 90, 1000, []int{30, 50, 60, 40}, []int{3, 0, 7}, 210 + 150 + 120 + 120},
		"the same energy":                  {mixed, []bool{true, true, true, true}, 60, 1000, []int{0, 50, 60, 10}, []int{3, 0, 2}, 0 + 150 + 120 + 30},
		"one of each kind":                 {mixed, []bool{true, false, false, true}, 50, 1000, []int{50, 0, 0, 50}, []int{3, 0, 7}, 350 + 150},
		"an energy of 0":                   {plantOf(compressor(5, 9, 0)), []bool{true}, 9, 1000, []int{9}, []int{0, 0, 0}, 0},
		"a cheap one behind a dear one":    {plantOf(compressor(5, 9, 8), compressor(0, 9, 1)), both, 14, 1000, []int{5, 9}, []int{1, 0, 0}, 49},
		"the first one has all at least":   {plantOf(compressor(9, 9, 1), compressor(9, 9, 1)), both, 5, 1000, []int{5, 0}, []int{0, 0, 0}, 18},
		"the greatest flow and energy":     {plantOf(compressor(0, api.PlantFlow, api.PlantEnergy)), []bool{true}, api.PlantFlow, 1000, []int{api.PlantFlow}, []int{api.PlantEnergy, 0, 0}, api.PlantFlow * api.PlantEnergy},
		"none of a kind that there is not": {plantOf(ofKind(api.PlantCool, compressor(0, 9, 4))), []bool{true}, 9, 1000, []int{9}, []int{0, 4, 0}, 36},
	} {
		shares, prices, energy, e := plant.Share(x.l, x.running, x.flow, x.ratio)
		if e != api.OK || !slices.Equal(shares, x.shares) || !slices.Equal(prices, x.prices) || energy != x.energy {
			t.Error(name, shares, prices, energy, e)
		}
	}
}

// P5.2: what cannot be shared, and arguments that are not as defined.
func TestShareErrors(t *testing.T) {
	both := []bool{true, true}
	cooled := plantOf(machineM(), ofKind(api.PlantCool, machineN()))
	for name, x := range map[string]struct {
		l           []api.PlantMachine
		running     []bool
		flow, ratio int
		e           api.Errno
	}{
		"the example":                    {example(), []bool{false, true}, 250, 1500, api.ErrNone},
		"one too much":                   {example(), both, 601, 2000, api.ErrNone},
		"too much at a greater ratio":    {example(), both, 600, 2001, api.ErrNone},
		"beyond the last row":            {example(), both, 1, 3001, api.ErrNone},
		"none runs":                      {example(), []bool{false, false}, 1, 1000, api.ErrNone},
		"one kind cannot":                {cooled, both, 201, 1500, api.ErrNone},
		"none of a kind runs":            {cooled, []bool{true, false}, 1, 1500, api.ErrNone},
		"too few machines":               {example(), []bool{true}, 1, 1500, api.ErrArg},
		"too many machines":              {example(), []bool{true, true, true}, 1, 1500, api.ErrArg},
		"no machines that run or do not": {example(), nil, 0, 1500, api.ErrArg},
		"a flow less than 0":             {example(), both, -1, 1500, api.ErrArg},
		"too great a flow":               {example(), both, api.PlantFlow + 1, 1500, api.ErrArg},
		"too small a ratio":              {example(), both, 1, 999, api.ErrArg},
		"too great a ratio":              {example(), both, 1, api.PlantRatio + 1, api.ErrArg},
	} {
		if shares, prices, energy, e := plant.Share(x.l, x.running, x.flow, x.ratio); e != x.e || len(shares) != 0 || len(prices) != 0 || energy != 0 {
			t.Error(name, shares, prices, energy, e)
		}
	}
	for name, l := range badPlants() {
		if _, _, _, e := plant.Share(l, make([]bool, len(l)), 0, 1500); e != api.ErrArg {
			t.Error(name, e)
		}
	}
}

// othersOf calls for all shares of a flow among machines that run, none above a Most.
func othersOf(l []api.PlantMachine, running []bool, flow, ratio int, yield func([]int)) {
	shares := make([]int, len(l))
	var give func(i int, left [4]int)
	give = func(i int, left [4]int) {
		if i == len(l) {
			for _, m := range l {
				if left[m.Kind] > 0 {
					return
				}
			}
			yield(shares)
			return
		}
		most := 0
		if running[i] {
			most = min(rowAsSaid(l[i], ratio).Most, left[l[i].Kind])
		}
		for n := range most + 1 {
			shares[i] = n
			rest := left
			rest[l[i].Kind] -= n
			give(i+1, rest)
		}
		shares[i] = 0
	}
	give(0, [4]int{0, flow, flow, flow})
}

// P5.2: shares are as the chapter says, and none takes less energy.
func TestShareIsLeast(t *testing.T) {
	r := rand.New(rand.NewSource(1))
	shared, others := 0, 0
	for range 3000 {
		l := somePlant(r, 1+r.Intn(5), 1+r.Intn(3), 40)
		running, flow, ratio := someRunning(r, len(l)), r.Intn(12), 1000+r.Intn(50)
		shares, prices, energy, e := plant.Share(l, running, flow, ratio)
		if shortAsSaid(l, running, flow, ratio) != 0 {
			if e != api.ErrNone {
				t.Fatal(l, running, flow, ratio, e)
			}
			continue
		}
		shared++
		wantShares, wantPrices := shareAsSaid(l, running, flow, ratio)
		if e != api.OK || !slices.Equal(shares, wantShares) || !slices.Equal(prices, wantPrices) || energy != energyAsSaid(l, running, shares, ratio) {
			t.Fatal(l, running, flow, ratio, shares, prices, energy, e)
		}
		othersOf(l, running, flow, ratio, func(other []int) {
			others++
			if energyAsSaid(l, running, other, ratio) < energy {
				t.Fatal(l, running, flow, ratio, shares, other)
			}
		})
	}
	if shared < 1000 || others < 5000 {
		t.Error("too few flows can be shared", shared, others)
	}
}

// P5.3: the examples of the chapter, and more.
func TestWeak(t *testing.T) {
	both := []bool{true, true}
	three := plantOf(compressor(0, 40, 1), compressor(0, 60, 1), compressor(0, 50, 1))
	falling := plantOf(compressor(0, 50, 1), with(compressor(0, 90, 1), func(m *api.PlantMachine) {
		m.Rows = []api.PlantRow{row(1100, 0, 90, 1), row(1200, 0, 40, 1), row(1300, 0, 90, 1)}
	}))
	for name, x := range map[string]struct {
		l       []api.PlantMachine
		running []bool
		flow    int
		ratio   api.Span
		weak    int
		e       api.Errno
	}{
		"200":                               {example(), both, 200, span(1500, 2500), -1, api.OK},
		"250":                               {example(), both, 250, span(1500, 2500), 0, api.OK},
		"450":                               {example(), both, 450, span(1500, 2500), 0, api.OK},
		"501":                               {example(), both, 501, span(1500, 2500), 0, api.ErrNone},
		"501 at a ratio at which it can be": {example(), both, 501, exactly(2000), 0, api.OK},
		"nothing":                           {example(), both, 0, span(1000, api.PlantRatio), -1, api.OK},
		"nothing, and none runs":            {example(), []bool{false, false}, 0, exactly(1000), -1, api.OK},
		"something, and none runs":          {example(), []bool{false, false}, 1, exactly(1000), 0, api.ErrNone},
		"one alone":                         {example(), []bool{false, true}, 1, exactly(1000), 1, api.OK},
		"the other one alone":               {example(), []bool{true, false}, 1, exactly(1000), 0, api.OK},
		"beyond the last row":               {example(), both, 1, span(3000, 3001), 0, api.ErrNone},
		"up to the last row":                {example(), both, 1, span(1000, 3000), -1, api.OK},
		"any can fail":                      {three, []bool{true, true, true}, 90, exactly(1000), -1, api.OK},
		"only one must not":                 {three, []bool{true, true, true}, 91, exactly(1000), 1, api.OK},
		"one that stands cannot fail":       {three, []bool{false, true, true}, 50, exactly(1000), -1, api.OK},
		"one that stands does not help":     {three, []bool{false, true, true}, 51, exactly(1000), 1, api.OK},
		"of another kind":                   {append(slices.Clone(three), ofKind(api.PlantDry, free(90))), []bool{true, true, true, true}, 90, exactly(1000), 3, api.OK},
		"between the bounds of the ratio":   {falling, both, 45, span(1050, 1250), 0, api.OK},
		"at the least ratio":                {falling, both, 45, span(1200, 1250), 0, api.OK},
		"at the greatest ratio":             {falling, both, 45, span(1050, 1101), 0, api.OK},
		"just below":                        {falling, both, 45, span(1050, 1100), -1, api.OK},
		"just above":                        {falling, both, 45, span(1201, 1300), -1, api.OK},
		"not all that run":                  {falling, []bool{false, true}, 45, span(1050, 1250), 0, api.ErrNone},
	} {
		if weak, e := plant.Weak(x.l, x.running, x.flow, x.ratio); e != x.e || weak != x.weak {
			t.Error(name, weak, e)
		}
	}
}

// P5.3: arguments that are not as defined.
func TestWeakErrors(t *testing.T) {
	both := []bool{true, true}
	for _, s := range badRatios() {
		if weak, e := plant.Weak(example(), both, 1, s); e != api.ErrArg || weak != 0 {
			t.Error(s, weak, e)
		}
	}
	for _, flow := range []int{math.MinInt, -1, api.PlantFlow + 1} {
		if weak, e := plant.Weak(example(), both, flow, exactly(1000)); e != api.ErrArg || weak != 0 {
			t.Error(flow, weak, e)
		}
	}
	for _, running := range [][]bool{nil, {true}, {true, true, true}} {
		if weak, e := plant.Weak(example(), running, 1, exactly(1000)); e != api.ErrArg || weak != 0 {
			t.Error(running, weak, e)
		}
	}
	for name, l := range badPlants() {
		if weak, e := plant.Weak(l, make([]bool, len(l)), 0, exactly(1000)); e != api.ErrArg || weak != 0 {
			t.Error(name, weak, e)
		}
	}
}

// P5.3: the machine is the first one that must not fail; if there is none, any can fail, whatever the ratio is.
func TestWeakIsFirst(t *testing.T) {
	r := rand.New(rand.NewSource(2))
	counts := map[int]int{}
	for range 3000 {
		l := somePlant(r, 1+r.Intn(6), 1+r.Intn(2), 60)
		running, flow, ratio := someRunning(r, len(l)), r.Intn(9), someRatios(r, 40)
		want, e := -1, api.OK
		for i := range l {
			others := slices.Clone(running)
			others[i] = false
			if want < 0 && running[i] && !carriedAsSaid(l, others, flow, ratio) {
				want = i
			}
		}
		if !carriedAsSaid(l, running, flow, ratio) {
			want, e = 0, api.ErrNone
		} else {
			counts[want]++
		}
		if weak, got := plant.Weak(l, running, flow, ratio); weak != want || got != e {
			t.Fatal(l, running, flow, ratio, weak, want, got)
		}
	}
	for _, weak := range []int{-1, 0, 1, 2} {
		if counts[weak] < 20 {
			t.Error("too few plants with that weak machine", counts)
		}
	}
}
