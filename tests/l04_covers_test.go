package tests

import (
	"slices"
	"testing"

	"loop.example/g01338/impl"
)

func TestCheckNetsAndFirstBare(t *testing.T) {
	f := birdField(t)
	cases := []struct {
		name, nets string
		targets    impl.Cells
		bare       int64
	}{
		{"no targets and no nets", "", impl.Cells{}, -1},
		{"no targets", "0,0:3x1", impl.Cells{}, -1},
		{"no nets", "", setOf(0), 0},
		{"no nets, the least of several", "", setOf(12, 2, 11), 2},
		{"one net", "0,0:3x1", setOf(0, 1, 2), -1},
		{"one net, and another target", "0,0:3x1", setOf(0, 1, 2, 13), 13},
		{"two nets", "1,1:2x1 0,0:1x1", setOf(0, 11, 12), -1},
		{"two nets, and a target between", "1,1:2x1 0,0:1x1", setOf(0, 1, 11, 12), 1},
		{"equal nets", "0,0:1x1 0,0:1x1", setOf(0, 1), 1},
		{"a tree", "0,0:3x1", setOf(0, 3), 3},
		{"another tree", "0,0:3x1 1,1:3x1", setOf(0, 10, 11), 10},
		{"a hedge and a path", "1,0:1x1 3,1:1x1", setOf(1, 13), -1},
		{"bits of numbers greater than 99", "0,0:1x1", withStrays(setOf(0)), -1},
		{"bits of numbers greater than 99 only", "", strayBits(), -1},
	}
	for _, c := range cases {
		fine, code := impl.CheckNets(f, netsOf(t, c.nets), c.targets)
		wantCode(t, c.name, code, impl.OK)
		want(t, c.name, fine, c.bare < 0)
		first, code := impl.FirstBare(f, netsOf(t, c.nets), c.targets)
		if c.bare < 0 {
			want(t, c.name, [2]int64{first, code}, [2]int64{0, impl.ErrNotFound})
			continue
		}
		want(t, c.name, [2]int64{first, code}, [2]int64{c.bare, impl.OK})
	}
}

func TestTrimNets(t *testing.T) {
	f := fieldOf(t, "5 5 5 5", "5 5 5 t")
	cases := []struct {
		name, nets string
		targets    impl.Cells
		code       int64
		wanted     string
	}{
		{"no targets and no nets", "", impl.Cells{}, impl.OK, ""},
		{"no targets", "0,0:1x1 0,0:4x1 2,0:1x2", impl.Cells{}, impl.OK, ""},
		{"one that is needed", "0,0:1x1", setOf(0), impl.OK, "0,0:1x1"},
		{"one that is not needed", "0,0:1x1 1,0:1x1", setOf(0), impl.OK, "0,0:1x1"},
		{"the last one goes first", "0,0:2x1 1,0:2x1", setOf(1), impl.OK, "0,0:2x1"},
		{"the last one goes first, backward", "1,0:2x1 0,0:2x1", setOf(1), impl.OK, "1,0:2x1"},
		{"equal ones", "0,0:2x1 0,0:2x1 0,0:2x1", setOf(0, 1), impl.OK, "0,0:2x1"},
		{"all are needed", "0,0:2x1 1,0:2x1 3,0:1x1", setOf(0, 2, 3), impl.OK, "0,0:2x1 1,0:2x1 3,0:1x1"},
		{"the one in the middle", "0,0:2x1 1,0:2x1 2,0:2x1", setOf(0, 1, 2, 3), impl.OK, "0,0:2x1 2,0:2x1"},
		{"the last one only", "0,0:2x1 2,0:2x1 1,0:2x1", setOf(0, 1, 2, 3), impl.OK, "0,0:2x1 2,0:2x1"},
		{"the first one, as the last one is needed", "0,0:2x1 0,0:4x1", setOf(0, 3), impl.OK, "0,0:4x1"},
		{"all in front of the last one", "0,0:1x1 1,0:1x1 2,0:1x1 0,0:3x2", setOf(0, 1, 2, 10), impl.OK, "0,0:3x2"},
		{"no nets, and a target", "", setOf(0), impl.ErrState, ""},
		{"a target that is bare", "0,0:2x1 1,0:2x1", setOf(1, 12), impl.ErrState, ""},
		{"a target that has a tree", "0,0:4x1 0,0:3x2", setOf(0, 13), impl.ErrState, ""},
		{"bits of numbers greater than 99", "0,0:1x1 1,0:1x1", withStrays(setOf(1)), impl.OK, "1,0:1x1"},
	}
	for _, c := range cases {
		nets, code := impl.TrimNets(f, netsOf(t, c.nets), c.targets)
		wantCode(t, c.name, code, c.code)
		want(t, c.name, impl.NetsText(nets), c.wanted)
		want(t, c.name+", their number", len(nets), len(netsOf(t, c.wanted)))
	}
}

// P8: trimmed nets cover all targets, and each of them is needed.
func TestP8TrimmedNetsAreNeeded(t *testing.T) {
	trimmed := 0
	for _, s := range someNetScenes() {
		var under []int
		for _, n := range targetsIn(coveredIn(s.nets, 1)) {
			if len(under) < 12 && (isIn(s.targets, n) || n%3 == 0) {
				under = append(under, int(n))
			}
		}
		s.targets = setOf(under...)
		kept := slices.Clone(s.nets)
		for i := len(s.nets) - 1; i >= 0; i-- {
			if others := slices.Delete(slices.Clone(kept), i, i+1); len(bareUnder(targetsIn(s.targets), others...)) == 0 {
				kept = others
				trimmed++
			}
		}
		nets, code := impl.TrimNets(s.f, s.nets, s.targets)
		wantCode(t, "TrimNets", code, impl.OK)
		wantNets(t, "TrimNets", nets, kept...)
		fine, code := impl.CheckNets(s.f, nets, s.targets)
		wantCode(t, "CheckNets", code, impl.OK)
		want(t, "trimmed nets cover all targets", fine, true)
		for i := range nets {
			fine, code = impl.CheckNets(s.f, slices.Delete(slices.Clone(nets), i, i+1), s.targets)
			wantCode(t, "CheckNets", code, impl.OK)
			want(t, "without one of them they do not", fine, false)
		}
	}
	want(t, "several nets are left away", trimmed > 50, true)
}

// P8: nets cover what CheckNets tells, and FirstBare is the first one that they do not cover.
func TestP8CheckNetsIsAsTold(t *testing.T) {
	for _, s := range someNetScenes() {
		bare := bareUnder(targetsIn(s.targets), s.nets...)
		fine, code := impl.CheckNets(s.f, s.nets, s.targets)
		wantCode(t, "CheckNets", code, impl.OK)
		want(t, "CheckNets", fine, len(bare) == 0)
		first, code := impl.FirstBare(s.f, s.nets, s.targets)
		if len(bare) == 0 {
			want(t, "FirstBare", [2]int64{first, code}, [2]int64{0, impl.ErrNotFound})
			continue
		}
		want(t, "FirstBare", [2]int64{first, code}, [2]int64{bare[0], impl.OK})
		_, code = impl.TrimNets(s.f, s.nets, s.targets)
		wantCode(t, "TrimNets of nets that do not cover all", code, impl.ErrState)
	}
}

func TestGreedyNets(t *testing.T) {
	line, square := plainField(t, 3, 1), plainField(t, 3, 3)
	cases := []struct {
		name    string
		f       impl.Field
		p       impl.Prices
		targets impl.Cells
		wanted  string
		cost    int64
	}{
		{"no targets", line, impl.Prices{Base: 1}, impl.Cells{}, "", 0},
		{"the first one of equally cheap ones", line, impl.Prices{Base: 1}, setOf(1), "0,0:2x1", 1},
		{"the first one of equally cheap ones, in the west", line, impl.Prices{Base: 1}, setOf(0), "0,0:1x1", 1},
		{"the cheapest one, which is not the first", line, impl.Prices{Cell: 1}, setOf(1), "1,0:1x1", 1},
		{"two for the price of one", line, impl.Prices{Base: 1}, setOf(0, 2), "0,0:3x1", 1},
		// For the cell 0 there are 2 for 1 target, and 4 for 2.
		{"equal shares, the first one", line, impl.Prices{Base: 1, Cell: 1}, setOf(0, 2), "0,0:1x1 2,0:1x1", 4},
		// 7 for 2 targets are less than 4 for 1, but more than 3 for 1.
		{"fractions that are not rounded down", line, impl.Prices{Base: 1, Cell: 2}, setOf(0, 2), "0,0:1x1 2,0:1x1", 6},
		{"fractions that are not rounded up", line, impl.Prices{Base: 2, Cell: 1, Edge: 0}, setOf(0, 2), "0,0:3x1", 5},
		{"the edge", line, impl.Prices{Edge: 1}, setOf(0, 2), "0,0:1x1 2,0:1x1", 8},
		{"only those that are bare count", square, impl.Prices{Base: 2, Cell: 1}, setOf(0, 1, 11, 12, 22), "0,0:2x1 1,1:2x1 2,2:1x1", 11},
		{"from the south-west", square, impl.Prices{Base: 1}, setOf(2, 20), "0,0:3x3", 1},
		{"by Y, then by X, then by High, then by Wide", square, impl.Prices{Base: 1}, setOf(11), "0,0:2x2", 1},
		{"a tree between", fieldOf(t, "5 t 5"), impl.Prices{Base: 1}, setOf(0, 2), "0,0:1x1 2,0:1x1", 2},
		{"a hedge between", fieldOf(t, "5 h 5"), impl.Prices{Base: 1}, setOf(0, 2), "0,0:3x1", 1},
		{"a hedge and a path", fieldOf(t, "h p 5"), impl.Prices{Base: 5, Cell: 1}, setOf(0, 1), "0,0:2x1", 7},
		{"bits of numbers greater than 99", line, impl.Prices{Base: 1}, withStrays(setOf(0)), "0,0:1x1", 1},
		{"bits of numbers greater than 99 only", line, impl.Prices{Base: 1}, strayBits(), "", 0},
		{"the greatest prices", line, impl.Prices{Base: 100, Cell: 100, Edge: 100}, setOf(0), "0,0:1x1", 600},
	}
	for _, c := range cases {
		nets, cost, code := impl.GreedyNets(c.f, c.p, c.targets)
		want(t, c.name, [2]int64{cost, code}, [2]int64{c.cost, impl.OK})
		want(t, c.name, impl.NetsText(nets), c.wanted)
	}
	nets, cost, code := impl.GreedyNets(plainField(t, 10, 10), impl.Prices{Cell: 1}, firstNumbers(12))
	want(t, "MaxWanted targets", [2]int64{cost, code}, [2]int64{12, impl.OK})
	want(t, "MaxWanted targets", len(nets), 12)
}

func TestCheapestNets(t *testing.T) {
	line, square := plainField(t, 3, 1), plainField(t, 3, 3)
	cases := []struct {
		name    string
		f       impl.Field
		p       impl.Prices
		targets impl.Cells
		tries   int64
		wanted  string
		cost    int64
	}{
		{"no targets", line, impl.Prices{Base: 1}, impl.Cells{}, 0, "", 0},
		{"bits of numbers greater than 99 only", line, impl.Prices{Base: 1}, strayBits(), 0, "", 0},
		{"bits of numbers greater than 99", line, impl.Prices{Base: 1}, withStrays(setOf(0)), 1, "0,0:1x1", 1},
		{"the first try", line, impl.Prices{Base: 5, Cell: 1}, setOf(0), 1, "0,0:1x1", 6},
		{"equally cheap ones are left out", line, impl.Prices{Base: 1}, setOf(1), 1, "0,0:2x1", 1},
		{"a cheaper one is tried, but no dearer one", line, impl.Prices{Cell: 1}, setOf(1), 2, "1,0:1x1", 1},
		// With 1x1 there are all 3 nets of the cell 2, each cheaper than the one before; then there are 2x1 and 3x1, which is a cover.
		{"the example on one row", line, impl.Prices{Base: 5, Cell: 1}, setOf(0, 2), 4 + 1 + 1, "0,0:3x1", 8},
		// The same, but 3x1 is not tried.
		{"the first one of equally cheap covers", line, impl.Prices{Base: 1, Cell: 1}, setOf(0, 2), 4 + 1, "0,0:1x1 2,0:1x1", 4},
		// 15, and 50, 40 and 30 behind it; then 25, with which all are dearer.
		{"the example with the cell 10, on one row", line, impl.Prices{Base: 5, Cell: 10}, setOf(0, 2), 4 + 1, "0,0:1x1 2,0:1x1", 30},
		// 1, and 2 behind it; then 2x1 is tried, and with it all cost as much.
		{"a base only", line, impl.Prices{Base: 1}, setOf(0, 2), 2 + 1 + 1, "0,0:3x1", 1},
		{"a tree between", fieldOf(t, "5 t 5"), impl.Prices{Base: 1}, setOf(0, 2), 2, "0,0:1x1 2,0:1x1", 2},
		{"a hedge between", fieldOf(t, "5 h 5"), impl.Prices{Base: 1}, setOf(0, 2), 2 + 1 + 1, "0,0:3x1", 1},
		{"the first net, in the order of AllNets", square, impl.Prices{Base: 1}, setOf(11), 1, "0,0:2x2", 1},
		{"the greatest prices", plainField(t, 1, 1), impl.Prices{Base: 100, Cell: 100, Edge: 100}, setOf(0), 1, "0,0:1x1", 600},
	}
	for _, c := range cases {
		for _, budget := range []int64{c.tries, c.tries + 1, impl.MaxTries} {
			nets, cost, code := impl.CheapestNets(c.f, c.p, c.targets, budget)
			want(t, c.name, [2]int64{cost, code}, [2]int64{c.cost, impl.OK})
			want(t, c.name, impl.NetsText(nets), c.wanted)
		}
		for budget := range c.tries {
			nets, cost, code := impl.CheapestNets(c.f, c.p, c.targets, budget)
			want(t, c.name+", with a smaller budget", [2]int64{cost, code}, [2]int64{0, impl.ErrBudget})
			wantNets(t, c.name+", with a smaller budget", nets)
		}
	}
}

func TestBudgetsOfTries(t *testing.T) {
	f := birdField(t)
	for _, budget := range farNumbers {
		wanted := int64(impl.OK)
		switch {
		case budget < 0 || budget > 20000:
			wanted = impl.ErrRange
		case budget == 0:
			wanted = impl.ErrBudget
		}
		_, _, code := impl.CheapestNets(f, impl.Prices{Base: 1}, setOf(0), budget)
		wantCode(t, "a budget", code, wanted)
		if wanted != impl.ErrRange {
			wanted = impl.OK
		}
		_, _, code = impl.CheapestNets(f, impl.Prices{Base: 1}, impl.Cells{}, budget)
		wantCode(t, "a budget, and no targets", code, wanted)
	}
	for budget, wanted := range map[int64]int64{-1: impl.ErrRange, 0: impl.ErrState, 20000: impl.ErrState, 20001: impl.ErrRange} {
		_, _, code := impl.CheapestNets(f, impl.Prices{Base: 1}, setOf(0, 3), budget)
		wantCode(t, "a budget, and a tree", code, wanted)
		_, _, code = impl.CheapestNets(f, impl.Prices{Base: 1}, setOf(0, 4), budget)
		wantCode(t, "a budget, and no cell", code, impl.ErrRange)
		_, _, code = impl.CheapestNets(plainField(t, 10, 10), impl.Prices{Base: 1}, firstNumbers(13), budget)
		wantCode(t, "a budget, and too many targets", code, impl.ErrLimit)
		_, _, code = impl.CheapestNets(f, impl.Prices{Base: 101}, setOf(0, 3, 4), budget)
		wantCode(t, "a budget, and no prices", code, impl.ErrInvalid)
	}
}

func TestTargetsWithTrees(t *testing.T) {
	f := birdField(t)
	for _, set := range []impl.Cells{setOf(3), setOf(10), setOf(0, 3), setOf(0, 10, 12), withStrays(setOf(3))} {
		for name, call := range targetCalls() {
			wanted := map[string]int64{
				"CheckNets": impl.OK, "FirstBare": impl.OK, "HolesToMend": impl.OK, "TrimNets": impl.ErrState,
				"GreedyNets": impl.ErrState, "CheapestNets": impl.ErrState, "DutiesFor": impl.ErrState,
				"CheckDuties": impl.OK, "DutyBound": impl.ErrProof,
			}[name]
			wantCode(t, name+" with a tree", call(f, set), wanted)
		}
	}
}

// tightScenes have few cells, and prices of all kinds, so that many covers cost the same.
func tightScenes(t *testing.T) []netScene {
	var list []netScene
	fields := []impl.Field{plainField(t, 3, 3), plainField(t, 4, 2), fieldOf(t, "5 h 5 p", "5 5 t 5", "p 5 5 5"), plainField(t, 6, 1), plainField(t, 1, 5)}
	for _, f := range fields {
		for _, p := range somePrices() {
			for _, set := range []impl.Cells{setOf(0), setOf(0, 2), setOf(0, 2, 10, 13), setOf(0, 1, 2, 3), setOf(0, 2, 11, 20, 22), setOf(0, 10, 20, 30, 40), setOf(1, 10, 12, 21)} {
				s := netScene{f: f, p: p, targets: set}
				if !hasTreeTarget(s) && !slices.ContainsFunc(targetsIn(set), func(n int64) bool { return !isCell(f, n) }) {
					list = append(list, s)
				}
			}
		}
	}
	return list
}

// largeNetScenes need more tries than MaxTries, or nearly as many.
func largeNetScenes() []netScene {
	var list []netScene
	for i, f := range someFields() {
		if f.Wide < 6 || f.High < 6 || i%3 > 0 {
			continue
		}
		s := netScene{f: f, p: somePrices()[i%len(somePrices())]}
		for n := range f.Kinds {
			if f.Kinds[n] == impl.KiTree && n%4 > 0 {
				s.f.Kinds[n] = impl.KiHedge
			}
		}
		var targets []int
		for n := i % 5; n < 100 && len(targets) < 12; n += 4 + i%4 {
			if isCell(f, int64(n)) && s.f.Kinds[n] != impl.KiTree {
				targets = append(targets, n)
			}
		}
		s.targets = setOf(targets...)
		list = append(list, s)
	}
	return list
}

// P8: the cheapest nets are those that the search finds, try by try, and no try is counted twice or left out.
func TestP8TriesAreAsTold(t *testing.T) {
	codes := map[int64]int{}
	for _, s := range slices.Concat(someNetScenes(), tightScenes(t), largeNetScenes()) {
		nets, cost, tries, code := cheapestIn(s, impl.MaxTries)
		codes[code]++
		wantCheapest(t, "MaxTries", s, impl.MaxTries, nets, cost, code)
		if code != impl.OK {
			continue
		}
		wantCheapest(t, "as many as there are", s, tries, nets, cost, code)
		for _, budget := range []int64{0, tries / 3, tries / 2, tries - 1} {
			if budget >= 0 && budget < tries {
				wantCheapest(t, "fewer than there are", s, budget, nil, 0, impl.ErrBudget)
			}
		}
	}
	for _, code := range []int64{impl.OK, impl.ErrBudget, impl.ErrState} {
		want(t, "several scenes with each code", codes[code] > 5, true)
	}
}

func wantCheapest(t *testing.T, name string, s netScene, budget int64, nets []impl.Net, cost, code int64) {
	t.Helper()
	gotNets, gotCost, gotCode := impl.CheapestNets(s.f, s.p, s.targets, budget)
	want(t, name, [2]int64{gotCost, gotCode}, [2]int64{cost, code})
	wantNets(t, name, gotNets, nets...)
}

// P8: greedy nets are those that the rules tell.
func TestP8GreedyNetsAreAsTold(t *testing.T) {
	for _, s := range slices.Concat(openScenes(), tightScenes(t), largeNetScenes()) {
		wanted := greedyNetsIn(s)
		nets, cost, code := impl.GreedyNets(s.f, s.p, s.targets)
		want(t, "GreedyNets", [2]int64{cost, code}, [2]int64{costIn(s.p, wanted...), impl.OK})
		wantNets(t, "GreedyNets", nets, wanted...)
	}
}

// P8: nets that are found cover all targets, and no cover costs less than the cheapest one; greedy ones sometimes cost more.
func TestP8NoCoverIsCheaper(t *testing.T) {
	more := 0
	for _, s := range slices.Concat(openScenes(), tightScenes(t), largeNetScenes()) {
		least := leastCostIn(s)
		greedy, cost, code := impl.GreedyNets(s.f, s.p, s.targets)
		wantCode(t, "GreedyNets", code, impl.OK)
		checkCover(t, "GreedyNets", s, greedy, cost)
		want(t, "greedy nets cost no less", cost >= least, true)
		if cost > least {
			more++
		}
		nets, cost, code := impl.CheapestNets(s.f, s.p, s.targets, impl.MaxTries)
		if code == impl.OK {
			checkCover(t, "CheapestNets", s, nets, cost)
			want(t, "the least cost", cost, least)
		}
	}
	want(t, "greedy nets cost more in several scenes", more > 5, true)
}

func checkCover(t *testing.T, name string, s netScene, nets []impl.Net, cost int64) {
	t.Helper()
	fine, code := impl.CheckNets(s.f, nets, s.targets)
	wantCode(t, name, code, impl.OK)
	want(t, name+" covers all targets", fine, true)
	wantList(t, name+" leaves no target", bareUnder(targetsIn(s.targets), nets...))
	for _, net := range nets {
		want(t, name+" has valid nets", isNetOn(s.f, net), true)
	}
	sum, code := impl.CostOfNets(s.f, s.p, nets)
	want(t, name+" costs what its nets cost", [2]int64{sum, code}, [2]int64{cost, impl.OK})
}
