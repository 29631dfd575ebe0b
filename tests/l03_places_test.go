package tests

import (
	"math/bits"
	"slices"
	"testing"

	"loop.example/g01338/impl"
)

// everything has all numbers, and all stray bits.
func everything() impl.Cells { return impl.Cells{^uint64(0), ^uint64(0)} }

// coverCase is what CoverOf or CoverersOf returns.
type coverCase struct {
	name               string
	cell, power, least int64
	code               int64
	wanted             impl.Cells
}

func checkCovers(t *testing.T, call func(f impl.Field, cell, power, least int64) (impl.Cells, int64), f impl.Field, cases []coverCase) {
	t.Helper()
	for _, c := range cases {
		set, code := call(f, c.cell, c.power, c.least)
		wantCode(t, c.name, code, c.code)
		want(t, c.name, set, c.wanted)
	}
}

func TestCoverOf(t *testing.T) {
	f := fieldOf(t, "5 h 5 t", "t 5 p 5")
	checkCovers(t, impl.CoverOf, f, []coverCase{
		{"its own cell", 0, 20, 20, impl.OK, setOf(0)},
		{"a power that is too small", 0, 20, 21, impl.OK, impl.Cells{}},
		{"just too far", 0, 29, 10, impl.OK, setOf(0)},
		{"just near enough", 0, 30, 10, impl.OK, setOf(0, 11)},
		{"from a hedge", 1, 20, 10, impl.OK, setOf(0, 2, 11)},
		{"from a hedge, itself only", 1, 20, 11, impl.OK, impl.Cells{}},
		{"from a path", 12, 20, 10, impl.OK, setOf(2, 11, 13)},
		{"all soil", 12, 1000, 1, impl.OK, setOf(0, 2, 11, 13)},
		{"the least numbers", 2, 1, 1, impl.OK, setOf(2)},
		{"the greatest numbers", 2, 1000, 1000, impl.OK, setOf(2)},
		{"a tree", 3, 20, 10, impl.ErrState, impl.Cells{}},
		{"another tree", 10, 20, 10, impl.ErrState, impl.Cells{}},
		{"no cell, east", 4, 20, 10, impl.ErrRange, impl.Cells{}},
		{"no cell, south", 20, 20, 10, impl.ErrRange, impl.Cells{}},
		{"no cell, less than 0", -1, 20, 10, impl.ErrRange, impl.Cells{}},
		{"no cell, soil and 65536", 65536, 20, 10, impl.ErrRange, impl.Cells{}},
		{"no power before a tree", 3, 0, 10, impl.ErrRange, impl.Cells{}},
		{"no least before a tree", 3, 20, 1001, impl.ErrRange, impl.Cells{}},
	})
}

func TestCoverersOf(t *testing.T) {
	f := fieldOf(t, "5 h 5 t", "t 5 p 5")
	checkCovers(t, impl.CoverersOf, f, []coverCase{
		{"itself", 0, 20, 20, impl.OK, setOf(0)},
		{"none", 0, 20, 21, impl.OK, impl.Cells{}},
		{"itself and a hedge, but no tree", 0, 20, 10, impl.OK, setOf(0, 1)},
		{"one that is just near enough", 0, 30, 10, impl.OK, setOf(0, 1, 11)},
		{"a path and no tree", 13, 20, 10, impl.OK, setOf(12, 13)},
		{"all places", 2, 1000, 1, impl.OK, setOf(0, 1, 2, 11, 12, 13)},
		{"a hedge", 1, 1000, 1, impl.OK, impl.Cells{}},
		{"a path", 12, 1000, 1, impl.OK, impl.Cells{}},
		{"a tree", 3, 1000, 1, impl.OK, impl.Cells{}},
		{"no cell, east", 4, 20, 10, impl.ErrRange, impl.Cells{}},
		{"no cell, south", 20, 20, 10, impl.ErrRange, impl.Cells{}},
		{"no cell, less than 0", -1, 20, 10, impl.ErrRange, impl.Cells{}},
		{"no power", 0, 0, 10, impl.ErrRange, impl.Cells{}},
		{"no least", 0, 20, 0, impl.ErrRange, impl.Cells{}},
	})
}

func TestCoversAreAsTold(t *testing.T) {
	for _, s := range someScenes()[:100] {
		covers := coversIn(s.f, s.power, s.least)
		for n := range int64(100) {
			coverCode, code := int64(impl.OK), int64(impl.OK)
			if !isCell(s.f, n) {
				coverCode, code = impl.ErrRange, impl.ErrRange
			} else if !isPlace(s.f, n) {
				coverCode = impl.ErrState
			}
			cover, got := impl.CoverOf(s.f, n, s.power, s.least)
			wantCode(t, "CoverOf", got, coverCode)
			want(t, "CoverOf", cover, covers[n])
			coverers, got := impl.CoverersOf(s.f, n, s.power, s.least)
			wantCode(t, "CoverersOf", got, code)
			wantList(t, "CoverersOf", impl.ListOf(coverers), coverersIn(covers, n)...)
		}
	}
}

// Powers and least fears that are out of range are refused by all functions with both.
func TestRangesOfPowers(t *testing.T) {
	f := birdField(t)
	check := func(name string, power, least, wanted int64) {
		t.Helper()
		_, a := impl.CoverOf(f, 0, power, least)
		_, b := impl.CoverersOf(f, 0, power, least)
		_, c := impl.CheckPlaces(f, power, least, setOf(0), []int64{0, 99})
		_, d := impl.GreedyPlaces(f, power, least, impl.Cells{})
		_, _, e := impl.FewestPlaces(f, power, least, impl.Cells{}, 0)
		_, g := impl.ApartCells(f, power, least, impl.Cells{})
		_, h := impl.CheckApart(f, power, least, []int64{99})
		for _, code := range []int64{a, b, c, d, e, g, h} {
			wantCode(t, name, code, wanted)
		}
	}
	for _, n := range farNumbers {
		wanted := int64(impl.OK)
		if n < 1 || n > 1000 {
			wanted = impl.ErrRange
		}
		check("power", n, 1, wanted)
		check("least", 1000, n, wanted)
		check("both", n, n, wanted)
	}
	_, code := impl.AddScare(f, nil, 0, 1001)
	wantCode(t, "AddScare", code, impl.ErrRange)
}

func TestCheckPlaces(t *testing.T) {
	f := fieldOf(t, "5 h 5 t 5", "t 5 p 5 5")
	cases := []struct {
		name    string
		targets impl.Cells
		places  []int64
		wanted  bool
	}{
		{"no targets and no places", impl.Cells{}, nil, true},
		{"no targets", impl.Cells{}, []int64{0, 14}, true},
		{"no places", setOf(0), nil, false},
		{"itself", setOf(0), []int64{0}, true},
		{"a hedge", setOf(0, 2, 11), []int64{1}, true},
		{"a hedge, and one that it does not cover", setOf(0, 2, 11, 13), []int64{1}, false},
		{"two places", setOf(0, 2, 11, 13), []int64{1, 12}, true},
		{"two places backward", setOf(0, 2, 11, 13), []int64{12, 1}, true},
		{"a place that comes twice", setOf(0, 2, 11), []int64{1, 1}, true},
		{"a place that comes twice, and another one", setOf(0, 2, 11, 13), []int64{1, 12, 1, 12, 1}, true},
		{"a place that comes twice, and covers too few", setOf(0, 13), []int64{1, 1}, false},
		{"a tree", setOf(0), []int64{0, 3}, false},
		{"a tree first", setOf(0), []int64{10, 0}, false},
		{"a tree, and no targets", impl.Cells{}, []int64{3}, false},
		{"a place that is no cell, east", setOf(0), []int64{0, 5}, false},
		{"a place that is no cell, south", setOf(0), []int64{0, 20}, false},
		{"a place that is no cell, less than 0", setOf(0), []int64{0, -1}, false},
		{"a place that is no cell, 100", setOf(0), []int64{100, 0}, false},
		{"a place that is no cell, soil and 65536", setOf(0), []int64{65536, 0}, false},
		{"a place that is no cell, and no targets", impl.Cells{}, []int64{99}, false},
		{"targets that are no soil", setOf(1, 3, 10, 12), nil, true},
		{"targets that are no soil, and one that is", setOf(1, 3, 10, 12, 0), []int64{0}, true},
		{"targets that are no soil, and one that is not covered", setOf(1, 3, 10, 12, 14), []int64{0}, false},
		{"targets that are no cells", setOf(5, 20, 99), nil, true},
		{"bits of numbers greater than 99", withStrays(setOf(0)), []int64{0}, true},
		{"all", everything(), []int64{1, 12, 4}, true},
		{"all but one", everything(), []int64{1, 12}, false},
	}
	for _, c := range cases {
		fine, code := impl.CheckPlaces(f, 20, 10, c.targets, c.places)
		wantCode(t, c.name, code, impl.OK)
		want(t, c.name, fine, c.wanted)
	}
	fine, code := impl.CheckPlaces(f, 9, 10, setOf(0), []int64{0})
	wantCode(t, "nothing is covered", code, impl.OK)
	want(t, "nothing is covered", fine, false)
	many := slices.Repeat([]int64{1, 12, 4}, 333333)
	fine, code = impl.CheckPlaces(f, 20, 10, everything(), many)
	wantCode(t, "a million places", code, impl.OK)
	want(t, "a million places", fine, true)
	fine, code = impl.CheckPlaces(f, 20, 10, everything(), append(many, 3))
	wantCode(t, "a million places and a tree", code, impl.OK)
	want(t, "a million places and a tree", fine, false)
}

func TestCheckPlacesIsAsTold(t *testing.T) {
	for i, s := range someScenes() {
		var places []int64
		for n := int64(i % 7); n < 100; n += 1 + int64(i%11) {
			if isPlace(s.f, n) {
				places = append(places, n)
			}
		}
		fine, code := impl.CheckPlaces(s.f, s.power, s.least, s.targets, places)
		wantCode(t, "CheckPlaces", code, impl.OK)
		want(t, "CheckPlaces", fine, len(bareIn(s, places)) == 0)
	}
}

// targetsCase is what GreedyPlaces or ApartCells returns.
type targetsCase struct {
	name         string
	f            impl.Field
	power, least int64
	targets      impl.Cells
	code         int64
	wanted       []int64
}

func checkTargets(t *testing.T, call func(f impl.Field, power, least int64, targets impl.Cells) ([]int64, int64), cases []targetsCase) {
	t.Helper()
	for _, c := range cases {
		list, code := call(c.f, c.power, c.least, c.targets)
		wantCode(t, c.name, code, c.code)
		wantList(t, c.name, list, c.wanted...)
	}
}

func TestGreedyPlaces(t *testing.T) {
	row := plainField(t, 7, 1)
	checkTargets(t, impl.GreedyPlaces, []targetsCase{
		{"no targets", row, 20, 10, impl.Cells{}, impl.OK, nil},
		{"no targets, and nothing is covered", row, 9, 10, impl.Cells{}, impl.OK, nil},
		{"nothing is covered", row, 9, 10, setOf(0), impl.ErrNotFound, nil},
		{"the least of several", row, 20, 10, setOf(3), impl.OK, []int64{2}},
		{"the least of several, itself the least", row, 20, 10, setOf(0), impl.OK, []int64{0}},
		{"the most first", row, 20, 10, setOf(0, 4, 5, 6), impl.OK, []int64{5, 0}},
		{"the most of those that are left", row, 20, 10, everything(), impl.OK, []int64{1, 4, 5}},
		{"more than are needed", row, 20, 10, setOf(0, 1, 3, 4), impl.OK, []int64{0, 3}},
		{"a hedge", fieldOf(t, "5 h 5"), 20, 10, everything(), impl.OK, []int64{1}},
		{"no tree", fieldOf(t, "5 t 5"), 20, 10, everything(), impl.OK, []int64{0, 2}},
		{"targets that are no soil", fieldOf(t, "h t p"), 20, 10, everything(), impl.OK, nil},
		{"targets that are no cells", row, 20, 10, setOf(7, 10, 99), impl.OK, nil},
		{"bits of numbers greater than 99", row, 20, 10, withStrays(setOf(6)), impl.OK, []int64{5}},
		{"each one alone", plainField(t, 3, 1), 20, 15, everything(), impl.OK, []int64{0, 1, 2}},
	})
	places, code := impl.GreedyPlaces(plainField(t, 10, 2), 20, 20, everything())
	wantCode(t, "MaxScares places", code, impl.OK)
	want(t, "MaxScares places", len(places), 20)
	places, code = impl.GreedyPlaces(plainField(t, 7, 3), 20, 20, everything())
	wantCode(t, "more than MaxScares places", code, impl.ErrNotFound)
	want(t, "more than MaxScares places", len(places), 0)
}

// Greedy places are sometimes more than the fewest ones.
func TestGreedyPlacesMayBeMore(t *testing.T) {
	row, targets := plainField(t, 6, 1), setOf(0, 1, 2, 3, 4, 5)
	greedy, code := impl.GreedyPlaces(row, 20, 10, setOf(0, 2, 3, 5))
	wantCode(t, "GreedyPlaces", code, impl.OK)
	wantList(t, "GreedyPlaces", greedy, 1, 4)
	greedy, code = impl.GreedyPlaces(row, 20, 10, targets)
	wantCode(t, "GreedyPlaces", code, impl.OK)
	wantList(t, "GreedyPlaces", greedy, 1, 4)
	more := 0
	for _, s := range someScenes() {
		greedy, code := impl.GreedyPlaces(s.f, s.power, s.least, s.targets)
		fewest, _, other := impl.FewestPlaces(s.f, s.power, s.least, s.targets, impl.MaxLooks)
		if code == impl.OK && other == impl.OK && len(greedy) > len(fewest) {
			more++
		}
	}
	want(t, "some scenes need fewer places than greedy ones", more > 0, true)
}

func TestFewestPlaces(t *testing.T) {
	row := plainField(t, 3, 1)
	wide := fieldOf(t, "5 h 5 h 5")
	cases := []struct {
		name         string
		f            impl.Field
		power, least int64
		targets      impl.Cells
		looks        int64
		wanted       []int64
	}{
		{"no targets", row, 20, 10, impl.Cells{}, 0, nil},
		{"no targets, and nothing is covered", row, 9, 10, impl.Cells{}, 0, nil},
		{"targets that are no soil", wide, 20, 10, setOf(1, 3), 0, nil},
		{"targets that are no cells", row, 20, 10, setOf(3, 10, 99), 0, nil},
		{"bits of numbers greater than 99 only", row, 20, 10, strayBits(), 0, nil},
		{"the first look", row, 20, 10, setOf(0), 1, []int64{0}},
		{"the first look of several that cover it", row, 20, 10, setOf(1, 2), 2, []int64{1}},
		{"the example with 10", row, 20, 10, everything(), 2, []int64{1}},
		{"the example with 15", row, 20, 15, everything(), 6, []int64{0, 1, 2}},
		{"equal numbers", row, 20, 20, setOf(0, 2), 3, []int64{0, 2}},
		{"bits of numbers greater than 99", row, 20, 10, withStrays(setOf(0, 1, 2)), 2, []int64{1}},
		// For the number 1 there are 0 and 1; for the number 2 there is 0, and then 1 and 2, which leave 4, and 3.
		{"hedges", wide, 20, 10, setOf(0, 2, 4), 2 + 4, []int64{0, 3}},
		// For the number 1 there are 0 and 1; for the number 2 there is 0, and then 3.
		{"two", wide, 20, 10, setOf(0, 4), 2 + 2, []int64{0, 3}},
		// For the number 1 there are 0 and 1; for the number 2 there is 0, and then 1, 2 and 3, none of which covers all that is left; then 1, and 2, 3 and 4.
		{"back to the first place", plainField(t, 6, 1), 20, 10, everything(), 2 + 1 + 3 + 1 + 3, []int64{1, 4}},
		{"a tree is not looked at", fieldOf(t, "5 t 5"), 20, 10, setOf(0, 2), 1 + 2, []int64{0, 2}},
	}
	for _, c := range cases {
		places, looks, code := impl.FewestPlaces(c.f, c.power, c.least, c.targets, c.looks)
		want(t, c.name, [2]int64{looks, code}, [2]int64{c.looks, impl.OK})
		wantList(t, c.name, places, c.wanted...)
		places, looks, code = impl.FewestPlaces(c.f, c.power, c.least, c.targets, impl.MaxLooks)
		want(t, c.name+", MaxLooks", [2]int64{looks, code}, [2]int64{c.looks, impl.OK})
		wantList(t, c.name+", MaxLooks", places, c.wanted...)
		if c.looks > 0 {
			for _, budget := range []int64{0, c.looks - 1} {
				places, looks, code = impl.FewestPlaces(c.f, c.power, c.least, c.targets, budget)
				want(t, c.name+", a smaller budget", [2]int64{looks, code}, [2]int64{0, impl.ErrBudget})
				wantList(t, c.name+", a smaller budget", places)
			}
		}
	}
}

// Each of the numbers 1 to 20 has as many looks, if each cell covers itself only: 210 for all of them.
func TestFewestPlacesAtTheLimit(t *testing.T) {
	full := plainField(t, 10, 10)
	var all []int
	for n := range 21 {
		all = append(all, n)
	}
	cases := []struct {
		name         string
		power, least int64
		count        int
		budget       int64
		looks, code  int64
	}{
		{"MaxScares places", 20, 20, 20, 210, 210, impl.OK},
		{"MaxScares places, with a smaller budget", 20, 20, 20, 209, 0, impl.ErrBudget},
		{"more than MaxScares places", 20, 20, 21, 210, 0, impl.ErrNotFound},
		{"more than MaxScares places, with MaxLooks", 20, 20, 21, 20000, 0, impl.ErrNotFound},
		{"more than MaxScares places, with a smaller budget", 20, 20, 21, 209, 0, impl.ErrBudget},
		{"nothing is covered", 19, 20, 21, 20000, 0, impl.ErrNotFound},
		{"nothing is covered, and no budget", 19, 20, 1, 0, 0, impl.ErrNotFound},
		{"no budget", 20, 20, 1, 0, 0, impl.ErrBudget},
		{"no targets, and no budget", 20, 20, 0, 0, 0, impl.OK},
	}
	for _, c := range cases {
		places, looks, code := impl.FewestPlaces(full, c.power, c.least, setOf(all[:c.count]...), c.budget)
		want(t, c.name, [2]int64{looks, code}, [2]int64{c.looks, c.code})
		want(t, c.name, code != impl.OK || len(places) == c.count, true)
		want(t, c.name, code == impl.OK || len(places) == 0, true)
	}
	for _, budget := range farNumbers {
		places, looks, code := impl.FewestPlaces(full, 20, 10, setOf(0), budget)
		switch {
		case budget < 0 || budget > 20000:
			want(t, "budget out of range", [2]int64{looks, code}, [2]int64{0, impl.ErrRange})
			wantList(t, "budget out of range", places)
			_, _, code = impl.FewestPlaces(full, 9, 10, setOf(0), budget)
			wantCode(t, "budget out of range before ErrNotFound", code, impl.ErrRange)
		case budget > 0:
			want(t, "a budget", [2]int64{looks, code}, [2]int64{1, impl.OK})
		}
	}
	_, _, code := impl.FewestPlaces(full, 20, 10, setOf(0), 20000)
	wantCode(t, "MaxLooks", code, impl.OK)
	_, _, code = impl.FewestPlaces(full, 20, 10, setOf(0), 20001)
	wantCode(t, "more than MaxLooks", code, impl.ErrRange)
}

// With a second place for the least target, which leaves the same targets, each number has twice as many looks; the last of them are those behind this place.
func TestLooksOfEqualPlacesCount(t *testing.T) {
	f := plainField(t, 10, 10)
	targets := []int{0}
	for n := range 100 {
		if (n%10+n/10)%2 == 1 {
			f.Kinds[n], f.Seeds[n] = impl.KiTree, 0
		} else if n >= 13 && len(targets) < 21 {
			targets = append(targets, n)
		}
	}
	f.Kinds[1] = impl.KiHedge
	places, looks, code := impl.FewestPlaces(f, 20, 10, setOf(targets[:20]...), 20000)
	want(t, "MaxScares places", [2]int64{looks, code}, [2]int64{2*190 + 20, impl.OK})
	want(t, "MaxScares places", len(places), 20)
	for budget, wanted := range map[int64]int64{20000: impl.ErrNotFound, 420: impl.ErrNotFound, 419: impl.ErrBudget, 401: impl.ErrBudget, 400: impl.ErrBudget, 210: impl.ErrBudget} {
		places, looks, code := impl.FewestPlaces(f, 20, 10, setOf(targets...), budget)
		want(t, "more than MaxScares places", [2]int64{looks, code}, [2]int64{0, wanted})
		wantList(t, "more than MaxScares places", places)
	}
}

// smallScenes have few cells, so that many places have equal covers, and many ways lead to the same targets.
func smallScenes(t *testing.T) []scene {
	var list []scene
	fields := []impl.Field{plainField(t, 3, 3), plainField(t, 4, 2), fieldOf(t, "5 h 5 p", "t 5 h 5", "5 5 t 5"), plainField(t, 10, 1)}
	for _, f := range fields {
		for _, powers := range [][2]int64{{20, 20}, {20, 10}, {20, 7}, {30, 6}, {50, 10}, {1000, 100}} {
			for _, targets := range []impl.Cells{everything(), setOf(0, 2, 11, 20, 22), setOf(1, 3, 10, 12, 21)} {
				list = append(list, scene{f: f, power: powers[0], least: powers[1], targets: targets})
			}
		}
	}
	return list
}

// largeScenes need more looks than MaxLooks, or nearly as many.
func largeScenes() []scene {
	var list []scene
	for i, f := range someFields() {
		if f.Wide >= 6 && f.High >= 5 {
			list = append(list, scene{f: f, power: 20, least: []int64{6, 7, 10}[i%3], targets: everything()})
		}
	}
	return list
}

// P7: the places are those that the search finds, look by look, and all looks are counted.
func TestP7LooksAreAsTold(t *testing.T) {
	codes := map[int64]int{}
	for _, s := range slices.Concat(someScenes(), smallScenes(t), largeScenes()) {
		places, looks, code := fewestIn(s, impl.MaxLooks)
		codes[code]++
		wantFewest(t, "MaxLooks", s, impl.MaxLooks, places, looks, code)
		if code != impl.OK {
			continue
		}
		wantFewest(t, "as many as there are", s, looks, places, looks, code)
		for _, budget := range []int64{0, looks / 3, looks / 2, looks - 1} {
			if budget >= 0 && budget < looks {
				wantFewest(t, "fewer than there are", s, budget, nil, 0, impl.ErrBudget)
			}
		}
	}
	for _, code := range []int64{impl.OK, impl.ErrBudget, impl.ErrNotFound} {
		want(t, "several scenes with each code", codes[code] > 5, true)
	}
}

func wantFewest(t *testing.T, name string, s scene, budget int64, places []int64, looks, code int64) {
	t.Helper()
	gotPlaces, gotLooks, gotCode := impl.FewestPlaces(s.f, s.power, s.least, s.targets, budget)
	want(t, name, [2]int64{gotLooks, gotCode}, [2]int64{looks, code})
	wantList(t, name, gotPlaces, places...)
}

// P7: greedy places are those that the rules tell.
func TestP7GreedyPlacesAreAsTold(t *testing.T) {
	codes := map[int64]int{}
	for _, s := range append(someScenes(), smallScenes(t)...) {
		wanted, wantedCode := greedyIn(s)
		places, code := impl.GreedyPlaces(s.f, s.power, s.least, s.targets)
		wantCode(t, "GreedyPlaces", code, wantedCode)
		wantList(t, "GreedyPlaces", places, wanted...)
		codes[code]++
	}
	want(t, "several scenes with each code", codes[impl.OK] > 5 && codes[impl.ErrNotFound] > 5, true)
}

// P7: places that are found cover all targets, greedy ones are no fewer than the fewest, nor these than cells that are apart.
func TestP7PlacesCoverAllTargets(t *testing.T) {
	for _, s := range append(someScenes(), smallScenes(t)...) {
		apart, code := impl.ApartCells(s.f, s.power, s.least, s.targets)
		wantCode(t, "ApartCells", code, impl.OK)
		greedy, greedyCode := impl.GreedyPlaces(s.f, s.power, s.least, s.targets)
		fewest, _, fewestCode := impl.FewestPlaces(s.f, s.power, s.least, s.targets, impl.MaxLooks)
		if greedyCode == impl.OK {
			checkFound(t, "GreedyPlaces", s, greedy, apart)
		}
		if fewestCode == impl.OK {
			checkFound(t, "FewestPlaces", s, fewest, apart)
			want(t, "greedy places are no fewer", greedyCode != impl.OK || len(greedy) >= len(fewest), true)
		}
		if fewestCode == impl.ErrNotFound {
			wantCode(t, "what FewestPlaces does not find, GreedyPlaces does not, either", greedyCode, impl.ErrNotFound)
		}
	}
}

func checkFound(t *testing.T, name string, s scene, places, apart []int64) {
	t.Helper()
	fine, code := impl.CheckPlaces(s.f, s.power, s.least, s.targets, places)
	wantCode(t, name, code, impl.OK)
	want(t, name+" are fine", fine, true)
	wantList(t, name+" leave no target", bareIn(s, places))
	for _, n := range places {
		want(t, name+" are places", isPlace(s.f, n), true)
	}
	want(t, name+" are no more than MaxScares", len(places) <= impl.MaxScares, true)
	want(t, name+" are no fewer than cells that are apart", len(places) >= len(apart), true)
}

// P7: no other places are fewer; all sets of places of small fields are tried.
func TestP7NoPlacesAreFewer(t *testing.T) {
	for _, s := range smallScenes(t) {
		places, _, code := impl.FewestPlaces(s.f, s.power, s.least, s.targets, impl.MaxLooks)
		want(t, "FewestPlaces finds some", code == impl.OK || code == impl.ErrBudget, true)
		want(t, "no places are fewer", code != impl.OK || len(places) == fewestOfAll(s), true)
	}
}

// fewestOfAll tries all sets of places of a scene.
func fewestOfAll(s scene) int {
	var some []impl.Cells
	for n, cover := range coversIn(s.f, s.power, s.least) {
		if isPlace(s.f, int64(n)) {
			some = append(some, cover)
		}
	}
	fewest := len(some) + 1
	for mask := range uint(1) << len(some) {
		bare := soilOf(s.f, s.targets)
		for i, cover := range some {
			if mask>>i&1 == 1 {
				bare = bareOf(bare, cover)
			}
		}
		if len(bare) == 0 {
			fewest = min(fewest, bits.OnesCount(mask))
		}
	}
	return fewest
}
