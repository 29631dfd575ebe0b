package tests

import (
	"math"
	"math/rand/v2"
	"slices"
	"testing"

	"loop.example/g01338/impl"
)

func TestDutiesFor(t *testing.T) {
	line := plainField(t, 3, 1)
	cases := []struct {
		name    string
		f       impl.Field
		p       impl.Prices
		targets impl.Cells
		wanted  []int64
	}{
		{"no targets", line, impl.Prices{Base: 1}, impl.Cells{}, nil},
		{"one target", line, impl.Prices{Base: 5, Cell: 1}, setOf(1), []int64{6}},
		{"the base only", line, impl.Prices{Base: 5}, setOf(0, 1, 2), []int64{5, 0, 0}},
		{"the cell only", line, impl.Prices{Cell: 5}, setOf(0, 1, 2), []int64{5, 5, 5}},
		{"the edge only", line, impl.Prices{Edge: 5}, setOf(0, 1, 2), []int64{20, 10, 10}},
		{"a net over all, but not over two", line, impl.Prices{Base: 5, Cell: 1}, setOf(0, 1, 2), []int64{6, 1, 1}},
		{"the example", plainField(t, 3, 2), impl.Prices{Base: 5, Cell: 1}, setOf(0, 2), []int64{6, 2}},
		{"far from each other", plainField(t, 10, 10), impl.Prices{Base: 5, Cell: 1}, setOf(0, 99), []int64{6, 6}},
		{"a tree between", fieldOf(t, "5 t 5"), impl.Prices{Base: 5, Cell: 1}, setOf(0, 2), []int64{6, 6}},
		{"a hedge between", fieldOf(t, "5 h 5"), impl.Prices{Base: 5, Cell: 1}, setOf(0, 2), []int64{6, 2}},
		{"a hedge and a path", fieldOf(t, "h p 5"), impl.Prices{Base: 5, Cell: 1}, setOf(0, 1), []int64{6, 1}},
		{"bits of numbers greater than 99", line, impl.Prices{Base: 5}, withStrays(setOf(2)), []int64{5}},
		{"bits of numbers greater than 99 only", line, impl.Prices{Base: 5}, strayBits(), nil},
		{"MaxWanted targets", plainField(t, 10, 10), impl.Prices{Cell: 100}, firstNumbers(12), slices.Repeat([]int64{100}, 12)},
	}
	for _, c := range cases {
		duties, code := impl.DutiesFor(c.f, c.p, c.targets)
		wantCode(t, c.name, code, impl.OK)
		wantList(t, c.name, duties, c.wanted...)
	}
}

func TestCheckDutiesAndDutyBound(t *testing.T) {
	f := fieldOf(t, "5 5 5 t")
	cases := []struct {
		name    string
		targets impl.Cells
		duties  []int64
		wanted  bool
	}{
		{"no targets", impl.Cells{}, nil, true},
		{"no targets, an empty list", impl.Cells{}, []int64{}, true},
		{"no targets, and a duty of 0", impl.Cells{}, []int64{0}, false},
		{"too few", setOf(0, 2), []int64{1}, false},
		{"none at all", setOf(0), nil, false},
		{"too many", setOf(0, 2), []int64{1, 1, 1}, false},
		{"too many, all 0", setOf(0, 2), []int64{0, 0, 0}, false},
		{"a million", setOf(0, 2), make([]int64, 1000000), false},
		{"as many as bits greater than 99, too", withStrays(setOf(0)), make([]int64, 29), false},
		{"bits greater than 99", withStrays(setOf(0)), []int64{6}, true},
		{"all 0", setOf(0, 2), []int64{0, 0}, true},
		{"less than 0", setOf(0, 2), []int64{-1, 1}, false},
		{"the last one less than 0", setOf(0, 2), []int64{1, -1}, false},
		{"less than 0, but another one is greater", setOf(0, 2), []int64{7, -1}, false},
		{"the least number", setOf(0), []int64{math.MinInt64}, false},
		{"those that are made", setOf(0, 2), []int64{6, 2}, true},
		{"the other way round", setOf(0, 2), []int64{2, 6}, true},
		{"equal ones", setOf(0, 2), []int64{4, 4}, true},
		{"one too much for both", setOf(0, 2), []int64{6, 3}, false},
		{"one too much for both, the other way round", setOf(0, 2), []int64{3, 6}, false},
		{"too much for one", setOf(0, 2), []int64{7, 0}, false},
		{"too much for the last one", setOf(0, 2), []int64{0, 7}, false},
		{"too much for two of three", setOf(0, 1, 2), []int64{4, 4, 0}, false},
		{"enough for two of three", setOf(0, 1, 2), []int64{4, 3, 1}, true},
		{"too much for all three", setOf(0, 1, 2), []int64{3, 3, 3}, false},
		{"the greatest number", setOf(0), []int64{math.MaxInt64}, false},
		{"the greatest number, and one more", setOf(0, 2), []int64{math.MaxInt64, 1}, false},
		{"sums that no int64 holds", setOf(0, 1, 2), []int64{math.MaxInt64, math.MaxInt64, 2}, false},
		{"sums that no int64 holds, of four", setOf(0, 1, 2, 3), []int64{1 << 62, 1 << 62, 1 << 62, 1 << 62}, false},
		{"a tree, under no net", setOf(3), []int64{1000000}, true},
		{"a tree, and the greatest number", setOf(3), []int64{math.MaxInt64}, true},
		{"a tree, and less than 0", setOf(3), []int64{-1}, false},
		{"a tree and soil", setOf(0, 3), []int64{6, 1000000}, true},
		{"a tree and soil, too much for the soil", setOf(0, 3), []int64{7, 1000000}, false},
	}
	p := impl.Prices{Base: 5, Cell: 1}
	for _, c := range cases {
		fine, code := impl.CheckDuties(f, p, c.targets, c.duties)
		wantCode(t, c.name, code, impl.OK)
		want(t, c.name, fine, c.wanted)
		bound, code := impl.DutyBound(f, p, c.targets, c.duties)
		if !c.wanted {
			want(t, c.name, [2]int64{bound, code}, [2]int64{0, impl.ErrProof})
			continue
		}
		want(t, c.name, [2]int64{bound, code}, [2]int64{sumOf(c.duties), impl.OK})
	}
}

// A net that covers no target needs no duty, and its cost is no matter; all nets of a field count.
func TestDutiesAndAllNets(t *testing.T) {
	full, p := plainField(t, 10, 10), impl.Prices{Base: 90, Cell: 1}
	corners := setOf(0, 9, 90, 99)
	fine, code := impl.CheckDuties(full, p, corners, []int64{48, 48, 47, 47})
	wantCode(t, "the net of all cells", code, impl.OK)
	want(t, "the net of all cells", fine, true)
	fine, code = impl.CheckDuties(full, p, corners, []int64{48, 48, 47, 48})
	wantCode(t, "the net of all cells, one too much", code, impl.OK)
	want(t, "the net of all cells, one too much", fine, false)
}

// P9: duties that are made are a proof, and each one is the greatest one.
func TestP9DutiesAreAProof(t *testing.T) {
	for _, s := range slices.Concat(openScenes(), tightScenes(t), largeNetScenes()) {
		duties, code := impl.DutiesFor(s.f, s.p, s.targets)
		wantCode(t, "DutiesFor", code, impl.OK)
		want(t, "a duty for each target", len(duties), len(targetsIn(s.targets)))
		want(t, "the duties are a proof", isProofIn(s, duties), true)
		fine, code := impl.CheckDuties(s.f, s.p, s.targets, duties)
		wantCode(t, "CheckDuties", code, impl.OK)
		want(t, "CheckDuties", fine, true)
		bound, code := impl.DutyBound(s.f, s.p, s.targets, duties)
		want(t, "DutyBound", [2]int64{bound, code}, [2]int64{sumOf(duties), impl.OK})
		for i := range duties {
			greater := make([]int64, len(duties))
			copy(greater, duties[:i+1])
			greater[i]++
			want(t, "a greater duty is no proof", isProofIn(s, greater), false)
			fine, code = impl.CheckDuties(s.f, s.p, s.targets, greater)
			wantCode(t, "CheckDuties, a greater duty", code, impl.OK)
			want(t, "CheckDuties, a greater duty", fine, false)
		}
	}
}

// P9: no cover costs less than the duties of a proof.
func TestP9NoCoverCostsLessThanDuties(t *testing.T) {
	reached := 0
	for _, s := range slices.Concat(openScenes(), tightScenes(t), largeNetScenes()) {
		duties, code := impl.DutiesFor(s.f, s.p, s.targets)
		wantCode(t, "DutiesFor", code, impl.OK)
		bound, code := impl.DutyBound(s.f, s.p, s.targets, duties)
		wantCode(t, "DutyBound", code, impl.OK)
		least := leastCostIn(s)
		want(t, "no cover costs less", bound <= least, true)
		if bound == least {
			reached++
		}
		_, cost, code := impl.GreedyNets(s.f, s.p, s.targets)
		want(t, "greedy nets cost no less", code == impl.OK && bound <= cost, true)
		_, cost, code = impl.CheapestNets(s.f, s.p, s.targets, impl.MaxTries)
		want(t, "the cheapest nets cost no less", code == impl.ErrBudget || code == impl.OK && bound <= cost, true)
	}
	want(t, "several covers cost as much as the duties", reached > 50, true)
}

// P9: CheckDuties tells of duties of all kinds whether they are a proof, and DutyBound is their sum, or ErrProof.
func TestP9ProofsAreAsTold(t *testing.T) {
	r := rand.New(rand.NewPCG(11, 12))
	proofs := map[bool]int{}
	for _, s := range slices.Concat(someNetScenes(), tightScenes(t)) {
		duties, _ := impl.DutiesFor(s.f, s.p, s.targets)
		if len(duties) == 0 {
			duties = make([]int64, len(targetsIn(s.targets)))
		}
		for range 6 {
			some := slices.Clone(duties)
			for range 1 + r.IntN(2) {
				i, j := r.IntN(len(some)), r.IntN(len(some))
				some[i], some[j] = some[i]-int64(r.IntN(4)), some[j]+int64(r.IntN(4))
			}
			wanted := isProofIn(s, some)
			proofs[wanted]++
			fine, code := impl.CheckDuties(s.f, s.p, s.targets, some)
			wantCode(t, "CheckDuties", code, impl.OK)
			want(t, "CheckDuties", fine, wanted)
			bound, code := impl.DutyBound(s.f, s.p, s.targets, some)
			if wanted {
				want(t, "DutyBound", [2]int64{bound, code}, [2]int64{sumOf(some), impl.OK})
			} else {
				want(t, "DutyBound", [2]int64{bound, code}, [2]int64{0, impl.ErrProof})
			}
		}
	}
	want(t, "several proofs, and several that are none", proofs[true] > 100 && proofs[false] > 100, true)
}
