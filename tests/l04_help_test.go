package tests

import (
	"math/rand/v2"
	"slices"
	"testing"

	"loop.example/g01338/impl"
)

// netScene is a field with nets that are valid for it, prices, and targets.
type netScene struct {
	f       impl.Field
	p       impl.Prices
	nets    []impl.Net
	targets impl.Cells
}

// somePrices have many ties; several are at their limits.
func somePrices() []impl.Prices {
	return []impl.Prices{
		{Base: 5, Cell: 1}, {Base: 5, Cell: 10}, {Base: 1}, {Cell: 1}, {Edge: 1}, {Base: 3, Cell: 2, Edge: 1},
		{Base: 100, Cell: 100, Edge: 100}, {Base: 100}, {Base: 20, Edge: 3}, {Base: 7, Cell: 3}, {Base: 40, Cell: 9, Edge: 2},
	}
}

// someNetScenes returns scenes of all sizes, with targets that no net can cover in some of them.
func someNetScenes() []netScene {
	r := rand.New(rand.NewPCG(9, 10))
	var list []netScene
	for range 2 {
		for _, f := range someFields() {
			list = append(list, someNetScene(r, f))
		}
	}
	return list
}

func someNetScene(r *rand.Rand, f impl.Field) netScene {
	s := netScene{f: f, p: somePrices()[r.IntN(len(somePrices()))]}
	// With few trees there are large nets, too.
	for n := range f.Kinds {
		if f.Kinds[n] == impl.KiTree && r.IntN(3) > 0 {
			s.f.Kinds[n] = impl.KiPath
		}
	}
	if nets := allNetsOn(s.f); len(nets) > 0 {
		for range r.IntN(6) {
			s.nets = append(s.nets, nets[r.IntN(len(nets))])
		}
		if len(s.nets) > 1 && r.IntN(3) == 0 {
			s.nets = append(s.nets, s.nets[0])
		}
	}
	trees, most := r.IntN(2) == 0, 1+r.IntN(7)
	var targets []int
	for _, n := range r.Perm(100) {
		if isCell(s.f, int64(n)) && len(targets) < most && (trees || s.f.Kinds[n] != impl.KiTree) {
			targets = append(targets, n)
		}
	}
	s.targets = setOf(targets...)
	if r.IntN(4) == 0 {
		s.targets = withStrays(s.targets)
	}
	return s
}

// openScenes returns those scenes whose targets have no tree.
func openScenes() []netScene {
	return slices.DeleteFunc(someNetScenes(), hasTreeTarget)
}

func hasTreeTarget(s netScene) bool {
	return slices.ContainsFunc(targetsIn(s.targets), func(n int64) bool { return s.f.Kinds[n] == impl.KiTree })
}

// targetsIn returns the numbers of a set, ascending, told without the package.
func targetsIn(set impl.Cells) []int64 {
	var list []int64
	for n := range int64(100) {
		if isIn(set, n) {
			list = append(list, n)
		}
	}
	return list
}

// isUnder tells, without the package, whether a net covers a number.
func isUnder(net impl.Net, n int64) bool {
	x, y := n%10-int64(net.X), n/10-int64(net.Y)
	return x >= 0 && x < int64(net.Wide) && y >= 0 && y < int64(net.High)
}

// isNetOn tells, without the package, whether a net is valid for a field that is.
func isNetOn(f impl.Field, net impl.Net) bool {
	if net.Wide < 1 || net.High < 1 {
		return false
	}
	for y := int(net.Y); y < int(net.Y)+int(net.High); y++ {
		for x := int(net.X); x < int(net.X)+int(net.Wide); x++ {
			if x < 0 || y < 0 || x >= int(f.Wide) || y >= int(f.High) || f.Kinds[x+10*y] == impl.KiTree {
				return false
			}
		}
	}
	return true
}

// allNetsOn returns all nets that are valid for a field, ordered by Y, X, High and Wide.
func allNetsOn(f impl.Field) []impl.Net {
	var nets []impl.Net
	for y := range int8(10) {
		for x := range int8(10) {
			for high := int8(1); high <= 10; high++ {
				for wide := int8(1); wide <= 10; wide++ {
					if net := netAt(x, y, wide, high); isNetOn(f, net) {
						nets = append(nets, net)
					}
				}
			}
		}
	}
	return nets
}

func netAt(x, y, wide, high int8) impl.Net { return impl.Net{X: x, Y: y, Wide: wide, High: high} }

// netsOver returns those of some nets that cover a number.
func netsOver(nets []impl.Net, n int64) []impl.Net {
	var over []impl.Net
	for _, net := range nets {
		if isUnder(net, n) {
			over = append(over, net)
		}
	}
	return over
}

// coveredTimes tells how many of some nets cover each number.
func coveredTimes(nets []impl.Net) [100]int {
	var times [100]int
	for n := range times {
		times[n] = len(netsOver(nets, int64(n)))
	}
	return times
}

// coveredIn returns the set of the numbers that so many nets cover, or more.
func coveredIn(nets []impl.Net, least int) impl.Cells {
	var covered []int
	for n, times := range coveredTimes(nets) {
		if times >= least {
			covered = append(covered, n)
		}
	}
	return setOf(covered...)
}

// bareUnder returns those of some numbers that no net covers.
func bareUnder(numbers []int64, nets ...impl.Net) []int64 {
	var bare []int64
	for _, n := range numbers {
		if len(netsOver(nets, n)) == 0 {
			bare = append(bare, n)
		}
	}
	return bare
}

// costIn tells, without the package, what nets cost.
func costIn(p impl.Prices, nets ...impl.Net) int64 {
	cost := int64(0)
	for _, net := range nets {
		wide, high := int64(net.Wide), int64(net.High)
		cost += int64(p.Base) + int64(p.Cell)*wide*high + int64(p.Edge)*(wide+high+wide+high)
	}
	return cost
}

// netTrial is the search for the cheapest nets, made try by try.
type netTrial struct {
	p      impl.Prices
	over   map[int64][]impl.Net
	best   []impl.Net
	cost   int64
	found  bool
	tries  int64
	budget int64
}

// run goes on from some nets with their cost, and reports whether the budget was enough.
func (r *netTrial) run(bare []int64, nets []impl.Net, cost int64) bool {
	if len(bare) == 0 {
		r.best, r.cost, r.found = nets, cost, true
		return true
	}
	for _, net := range r.over[bare[0]] {
		more := cost + costIn(r.p, net)
		if r.found && more >= r.cost {
			continue
		}
		if r.tries++; r.tries > r.budget {
			return false
		}
		if !r.run(bareUnder(bare, net), append(slices.Clone(nets), net), more) {
			return false
		}
	}
	return true
}

// cheapestIn tells, without the package, what CheapestNets returns for a scene, and with how many tries.
func cheapestIn(s netScene, budget int64) (nets []impl.Net, cost, tries, code int64) {
	if hasTreeTarget(s) {
		return nil, 0, 0, impl.ErrState
	}
	targets, every := targetsIn(s.targets), allNetsOn(s.f)
	r := netTrial{p: s.p, over: map[int64][]impl.Net{}, budget: budget}
	for _, n := range targets {
		r.over[n] = netsOver(every, n)
	}
	if !r.run(targets, nil, 0) {
		return nil, 0, r.tries, impl.ErrBudget
	}
	return r.best, r.cost, r.tries, impl.OK
}

// greedyNetsIn tells, without the package, what GreedyNets returns for a scene.
func greedyNetsIn(s netScene) []impl.Net {
	var taken []impl.Net
	every := allNetsOn(s.f)
	for bare := targetsIn(s.targets); len(bare) > 0; {
		var best impl.Net
		for _, net := range netsOver(every, bare[0]) {
			covers, most := len(bare)-len(bareUnder(bare, net)), len(bare)-len(bareUnder(bare, best))
			if best == (impl.Net{}) || costIn(s.p, net)*int64(most) < costIn(s.p, best)*int64(covers) {
				best = net
			}
		}
		taken, bare = append(taken, best), bareUnder(bare, best)
	}
	return taken
}

// leastCostIn tells what covers of all targets cost at least. It knows, for each part of the targets, what it costs at least to cover it, and perhaps more.
func leastCostIn(s netScene) int64 {
	targets := targetsIn(s.targets)
	const tooMuch = int64(1) << 40
	least := slices.Repeat([]int64{tooMuch}, 1<<len(targets))
	least[0] = 0
	offers := map[int]int64{}
	for _, net := range allNetsOn(s.f) {
		mask := 0
		for i, n := range targets {
			if isUnder(net, n) {
				mask |= 1 << i
			}
		}
		if cost, known := offers[mask]; !known || costIn(s.p, net) < cost {
			offers[mask] = costIn(s.p, net)
		}
	}
	for part := range least {
		for mask, cost := range offers {
			least[part|mask] = min(least[part|mask], least[part]+cost)
		}
	}
	return least[len(least)-1]
}

// isProofIn tells, without the package, whether duties that are small numbers are a proof.
func isProofIn(s netScene, duties []int64) bool {
	targets := targetsIn(s.targets)
	if len(duties) != len(targets) || slices.ContainsFunc(duties, func(duty int64) bool { return duty < 0 }) {
		return false
	}
	for _, net := range allNetsOn(s.f) {
		sum := int64(0)
		for i, n := range targets {
			if isUnder(net, n) {
				sum += duties[i]
			}
		}
		if sum > costIn(s.p, net) {
			return false
		}
	}
	return true
}

func sumOf(numbers []int64) int64 {
	sum := int64(0)
	for _, n := range numbers {
		sum += n
	}
	return sum
}

// wantNets takes nil and empty lists for equal ones.
func wantNets(t *testing.T, name string, got []impl.Net, wanted ...impl.Net) {
	t.Helper()
	if !slices.Equal(got, wanted) {
		t.Errorf("%s: got %v, want %v", name, got, wanted)
	}
}

// netsOf reads nets from their text.
func netsOf(t *testing.T, text string) []impl.Net {
	t.Helper()
	nets, code := impl.ReadNets(text)
	wantCode(t, "ReadNets", code, impl.OK)
	return nets
}

// goodNet is valid for birdField, at its western edge.
func goodNet() impl.Net { return netAt(0, 0, 3, 1) }

// brokenNets returns nets that are not valid for birdField, each in one way.
func brokenNets() map[string]impl.Net {
	return map[string]impl.Net{
		"zero":                              {},
		"wide 0":                            netAt(0, 0, 0, 1),
		"high 0":                            netAt(0, 0, 1, 0),
		"wide -1":                           netAt(1, 0, -1, 1),
		"high -1":                           netAt(1, 1, 1, -1),
		"wide -128":                         netAt(1, 0, -128, 1),
		"high -128":                         netAt(1, 0, 1, -128),
		"wide and high -1":                  netAt(2, 1, -1, -1),
		"x -1":                              netAt(-1, 0, 1, 1),
		"x -1, but wide":                    netAt(-1, 0, 3, 1),
		"y -1":                              netAt(0, -1, 1, 1),
		"y -1, but high":                    netAt(0, -1, 1, 2),
		"x -128":                            netAt(-128, 0, 1, 1),
		"y -128":                            netAt(0, -128, 1, 1),
		"x -128, as wide as can be":         netAt(-128, 0, 127, 1),
		"east of the field":                 netAt(4, 0, 1, 1),
		"over the eastern edge":             netAt(1, 1, 4, 1),
		"over the eastern edge by much":     netAt(1, 1, 10, 1),
		"south of the field":                netAt(0, 2, 1, 1),
		"over the southern edge":            netAt(1, 0, 1, 3),
		"over the southern edge by much":    netAt(1, 1, 1, 10),
		"over both edges":                   netAt(1, 1, 4, 2),
		"x 127":                             netAt(127, 0, 1, 1),
		"y 127":                             netAt(0, 127, 1, 1),
		"wide 127, with a sum of 128":       netAt(1, 0, 127, 1),
		"high 127, with a sum of 128":       netAt(1, 1, 1, 127),
		"x and wide 127, with a sum of 254": netAt(127, 0, 127, 1),
		"y and high 127, with a sum of 254": netAt(0, 127, 1, 127),
		"all 127":                           netAt(127, 127, 127, 127),
		"only a tree":                       netAt(3, 0, 1, 1),
		"only another tree":                 netAt(0, 1, 1, 1),
		"a tree at its east":                netAt(0, 0, 4, 1),
		"a tree at its west":                netAt(0, 1, 4, 1),
		"a tree at its north":               netAt(3, 0, 1, 2),
		"a tree at its south":               netAt(0, 0, 1, 2),
		"trees in two corners":              netAt(0, 0, 4, 2),
	}
}

// brokenPrices returns prices that are not valid, each in one way.
func brokenPrices() map[string]impl.Prices {
	broken := map[string]impl.Prices{"all three 0": {}}
	for name, n := range map[string]int16{"-1": -1, "101": 101, "256": 256, "least": -32768, "greatest": 32767} {
		broken["base "+name] = impl.Prices{Base: n, Cell: 1, Edge: 1}
		broken["cell "+name] = impl.Prices{Base: 1, Cell: n, Edge: 1}
		broken["edge "+name] = impl.Prices{Base: 1, Cell: 1, Edge: n}
		broken["base "+name+" alone"] = impl.Prices{Base: n}
		broken["cell "+name+" alone"] = impl.Prices{Cell: n}
		broken["edge "+name+" alone"] = impl.Prices{Edge: n}
	}
	return broken
}

// brokenNetLists returns lists of nets that are not valid for birdField.
func brokenNetLists() map[string][]impl.Net {
	lists := map[string][]impl.Net{
		"many that are not valid":         make([]impl.Net, 21),
		"the last one of many":            append(slices.Repeat([]impl.Net{goodNet()}, 21), netAt(3, 0, 1, 1)),
		"the first one of many":           append([]impl.Net{netAt(0, 1, 1, 1)}, slices.Repeat([]impl.Net{goodNet()}, 21)...),
		"the one in the middle of many":   slices.Insert(slices.Repeat([]impl.Net{goodNet()}, 40), 20, netAt(1, 0, 127, 1)),
		"one that comes after equal ones": {goodNet(), goodNet(), netAt(0, 0, 4, 1)},
	}
	for name, net := range brokenNets() {
		lists[name] = []impl.Net{net}
		lists[name+", first"] = []impl.Net{net, goodNet()}
		lists[name+", last"] = []impl.Net{goodNet(), netAt(1, 1, 2, 1), net}
	}
	return lists
}
