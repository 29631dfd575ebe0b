package tests

import (
	"math/rand/v2"
	"slices"
	"testing"

	"loop.example/g01338/impl"
)

// scene is a field with scarecrows that are valid for it, and what is asked of new ones.
type scene struct {
	f       impl.Field
	list    []impl.Scarecrow
	power   int64
	least   int64
	targets impl.Cells
}

// someScenes returns scenes of all sizes, with few targets and with many, and with numbers at their limits.
func someScenes() []scene {
	r := rand.New(rand.NewPCG(7, 8))
	var list []scene
	for range 4 {
		for _, f := range someFields() {
			list = append(list, someScene(r, f))
		}
	}
	return list
}

func someScene(r *rand.Rand, f impl.Field) scene {
	s := scene{
		f:     f,
		power: []int64{1, 5, 10, 20, 50, 100, 999, 1000}[r.IntN(8)],
		least: []int64{1, 2, 5, 10, 15, 20, 50, 1000}[r.IntN(8)],
	}
	for _, n := range r.Perm(100)[:r.IntN(60)] {
		if isPlace(f, int64(n)) && len(s.list) < impl.MaxScares {
			age := []int8{0, 2, 3, 5, 6, 15, 29, 30}[r.IntN(8)]
			s.list = append(s.list, impl.Scarecrow{Cell: int16(n), Power: int16(1 + r.IntN(1000)), Age: age})
		}
	}
	s.targets = setOf(r.Perm(128)[:r.IntN(40)]...)
	if r.IntN(4) == 0 {
		s.targets = impl.Cells{r.Uint64(), r.Uint64()}
	}
	return s
}

// isPlace tells, without the package, whether a scarecrow can stand in a cell.
func isPlace(f impl.Field, n int64) bool {
	return isCell(f, n) && f.Kinds[n] != impl.KiTree
}

func isSoilCell(f impl.Field, n int64) bool {
	return isCell(f, n) && f.Kinds[n] == impl.KiSoil
}

// countOf tells, without the package, with what a scarecrow counts.
func countOf(s impl.Scarecrow) int64 {
	count := int64(s.Power)
	for age := s.Age; age >= 3; age -= 3 {
		count /= 2
	}
	return count
}

// fearIn tells the fear of a number, without the package.
func fearIn(list []impl.Scarecrow, n int64) int64 {
	fear := int64(0)
	for _, s := range list {
		fear = max(fear, countOf(s)/(1+squareTo(int64(s.Cell), n)))
	}
	return fear
}

// safeIn tells, without the package, which soil cells are safe.
func safeIn(f impl.Field, list []impl.Scarecrow, least int64) impl.Cells {
	var safe []int
	for n := range int64(100) {
		if isSoilCell(f, n) && fearIn(list, n) >= least {
			safe = append(safe, int(n))
		}
	}
	return setOf(safe...)
}

// agedBy returns older scarecrows, without the package.
func agedBy(list []impl.Scarecrow, days int) []impl.Scarecrow {
	aged := slices.Clone(list)
	for i := range aged {
		aged[i].Age = int8(min(30, int(aged[i].Age)+days))
	}
	return aged
}

// daysIn tells, without the package, for how many days a number is safe.
func daysIn(list []impl.Scarecrow, n, least int64) int64 {
	for days := range 100 {
		if fearIn(agedBy(list, days), n) < least {
			return int64(days)
		}
	}
	return -1
}

// coversIn tells the cover of each number, without the package; that of a number that is no place is empty.
func coversIn(f impl.Field, power, least int64) [100]impl.Cells {
	var covers [100]impl.Cells
	for n := range int64(100) {
		if isPlace(f, n) {
			covers[n] = safeIn(f, []impl.Scarecrow{{Cell: int16(n), Power: int16(power)}}, least)
		}
	}
	return covers
}

// coverersIn returns the numbers that have a cell in their covers.
func coverersIn(covers [100]impl.Cells, cell int64) []int64 {
	var list []int64
	for n := range int64(100) {
		if isIn(covers[n], cell) {
			list = append(list, n)
		}
	}
	return list
}

// areApart tells whether no number has two cells in its cover.
func areApart(covers [100]impl.Cells, a, b int64) bool {
	for n := range covers {
		if isIn(covers[n], a) && isIn(covers[n], b) {
			return false
		}
	}
	return true
}

// soilOf returns the soil cells of a set, ascending.
func soilOf(f impl.Field, set impl.Cells) []int64 {
	var list []int64
	for n := range int64(100) {
		if isSoilCell(f, n) && isIn(set, n) {
			list = append(list, n)
		}
	}
	return list
}

// bareOf returns what a cover leaves of some cells.
func bareOf(cells []int64, cover impl.Cells) []int64 {
	var bare []int64
	for _, n := range cells {
		if !isIn(cover, n) {
			bare = append(bare, n)
		}
	}
	return bare
}

// bareIn returns the targets of a scene that some places do not cover.
func bareIn(s scene, places []int64) []int64 {
	covers, bare := coversIn(s.f, s.power, s.least), soilOf(s.f, s.targets)
	for _, n := range places {
		bare = bareOf(bare, covers[n])
	}
	return bare
}

// trial is the search for the fewest places, made look by look.
type trial struct {
	covers [100]impl.Cells
	looks  int64
	budget int64
}

func (r *trial) run(bare []int64, places int) ([]int64, int64) {
	if len(bare) == 0 {
		return []int64{}, impl.OK
	}
	if places == 0 {
		return nil, impl.ErrNotFound
	}
	for _, n := range coverersIn(r.covers, bare[0]) {
		if r.looks++; r.looks > r.budget {
			return nil, impl.ErrBudget
		}
		others, code := r.run(bareOf(bare, r.covers[n]), places-1)
		if code == impl.OK {
			return append([]int64{n}, others...), impl.OK
		}
		if code == impl.ErrBudget {
			return nil, code
		}
	}
	return nil, impl.ErrNotFound
}

// fewestIn tells, without the package, what FewestPlaces returns for a scene.
func fewestIn(s scene, budget int64) ([]int64, int64, int64) {
	r := trial{covers: coversIn(s.f, s.power, s.least), budget: budget}
	for places := range 21 {
		found, code := r.run(soilOf(s.f, s.targets), places)
		if code == impl.OK {
			return found, r.looks, code
		}
		if code == impl.ErrBudget {
			return nil, 0, code
		}
	}
	return nil, 0, impl.ErrNotFound
}

// greedyIn tells, without the package, what GreedyPlaces returns for a scene.
func greedyIn(s scene) ([]int64, int64) {
	covers, bare := coversIn(s.f, s.power, s.least), soilOf(s.f, s.targets)
	var places []int64
	for len(bare) > 0 {
		best := 0
		for n := range covers {
			if len(bareOf(bare, covers[n])) < len(bareOf(bare, covers[best])) {
				best = n
			}
		}
		left := bareOf(bare, covers[best])
		if len(left) == len(bare) || len(places) == 20 {
			return nil, impl.ErrNotFound
		}
		places, bare = append(places, int64(best)), left
	}
	return places, impl.OK
}

// scareRow returns scarecrows in the first cells of a field of 10 by 10 cells of soil.
func scareRow(count int) []impl.Scarecrow {
	var list []impl.Scarecrow
	for n := range count {
		list = append(list, impl.Scarecrow{Cell: int16(n), Power: 20})
	}
	return list
}

func plainField(t *testing.T, wide, high int64) impl.Field {
	t.Helper()
	f, code := impl.PlainField(wide, high, 5)
	wantCode(t, "PlainField", code, impl.OK)
	return f
}

func goodScare() impl.Scarecrow {
	return impl.Scarecrow{Cell: 1, Power: 20, Age: 4}
}

// brokenScares returns scarecrows that are not valid for birdField, each in one way.
func brokenScares() map[string]impl.Scarecrow {
	broken := map[string]impl.Scarecrow{}
	cells := map[string]int16{
		"a tree": 3, "another tree": 10, "east": 4, "south": 20, "last": 99, "100": 100, "256": 256,
		"-1": -1, "-255": -255, "least": -32768, "greatest": 32767,
	}
	for name, n := range cells {
		broken["cell "+name] = impl.Scarecrow{Cell: n, Power: 20, Age: 4}
	}
	for name, n := range map[string]int16{"0": 0, "-1": -1, "1001": 1001, "least": -32768, "greatest": 32767} {
		broken["power "+name] = impl.Scarecrow{Cell: 1, Power: n, Age: 4}
	}
	for name, n := range map[string]int8{"-1": -1, "-3": -3, "31": 31, "least": -128, "greatest": 127} {
		broken["age "+name] = impl.Scarecrow{Cell: 1, Power: 20, Age: n}
	}
	return broken
}

// brokenLists returns lists of scarecrows that are not valid for birdField, each in one way.
func brokenLists() map[string][]impl.Scarecrow {
	good, other := goodScare(), impl.Scarecrow{Cell: 0, Power: 1}
	lists := map[string][]impl.Scarecrow{
		"two in a cell":             {good, good},
		"two in a cell, not alike":  {good, other, {Cell: 1, Power: 9}},
		"the last two in a cell":    {other, good, {Cell: 1, Power: 9, Age: 30}},
		"more than MaxScares":       slices.Repeat([]impl.Scarecrow{good}, 21),
		"many more than MaxScares":  make([]impl.Scarecrow, 1000),
		"more than there are cells": scareRow(21),
	}
	for name, s := range brokenScares() {
		lists[name] = []impl.Scarecrow{s}
		lists[name+", first"] = []impl.Scarecrow{s, other}
		lists[name+", last"] = []impl.Scarecrow{other, {Cell: 2, Power: 1}, s}
	}
	return lists
}
