package tests

import (
	"math"
	"reflect"
	"slices"
	"testing"

	"loop.example/g01338/impl"
)

// scareArgs are arguments of all functions of the chapter.
type scareArgs struct {
	f       impl.Field
	list    []impl.Scarecrow
	targets impl.Cells
	cells   []int64
	a, b, c int64
}

// scareCall is a function with a code as its last result, and whether it looks at scarecrows.
type scareCall struct {
	name string
	list bool
	run  func(x scareArgs) []any
}

func scareCalls() []scareCall {
	return []scareCall{
		{"FearOf", true, func(x scareArgs) []any { r, e := impl.FearOf(x.f, x.list, x.a); return all(r, e) }},
		{"FearMap", true, func(x scareArgs) []any { r, e := impl.FearMap(x.f, x.list); return all(r, e) }},
		{"SafeCells", true, func(x scareArgs) []any { r, e := impl.SafeCells(x.f, x.list, x.b); return all(r, e) }},
		{"AgeScares", true, func(x scareArgs) []any { r, e := impl.AgeScares(x.f, x.list, x.a); return all(r, e) }},
		{"MoveScare", true, func(x scareArgs) []any { r, e := impl.MoveScare(x.f, x.list, x.a, x.b); return all(r, e) }},
		{"AddScare", true, func(x scareArgs) []any { r, e := impl.AddScare(x.f, x.list, x.a, x.b); return all(r, e) }},
		{"DaysSafe", true, func(x scareArgs) []any { r, e := impl.DaysSafe(x.f, x.list, x.a, x.b); return all(r, e) }},
		{"CoverOf", false, func(x scareArgs) []any { r, e := impl.CoverOf(x.f, x.a, x.b, x.c); return all(r, e) }},
		{"CoverersOf", false, func(x scareArgs) []any { r, e := impl.CoverersOf(x.f, x.a, x.b, x.c); return all(r, e) }},
		{"CheckPlaces", false, func(x scareArgs) []any {
			r, e := impl.CheckPlaces(x.f, x.b, x.c, x.targets, x.cells)
			return all(r, e)
		}},
		{"GreedyPlaces", false, func(x scareArgs) []any {
			r, e := impl.GreedyPlaces(x.f, x.b, x.c, x.targets)
			return all(r, e)
		}},
		{"FewestPlaces", false, func(x scareArgs) []any {
			r, s, e := impl.FewestPlaces(x.f, x.b, x.c, x.targets, x.a)
			return all(r, s, e)
		}},
		{"ApartCells", false, func(x scareArgs) []any { r, e := impl.ApartCells(x.f, x.b, x.c, x.targets); return all(r, e) }},
		{"CheckApart", false, func(x scareArgs) []any { r, e := impl.CheckApart(x.f, x.b, x.c, x.cells); return all(r, e) }},
		{"UselessScares", true, func(x scareArgs) []any { r, e := impl.UselessScares(x.f, x.list, x.b); return all(r, e) }},
		{"LongestSafe", true, func(x scareArgs) []any {
			r, e := impl.LongestSafe(x.f, x.list, x.targets, x.b)
			return all(r, e)
		}},
	}
}

// someScareArgs returns arguments that are valid, and such as are not valid in one way or in several.
func someScareArgs(t *testing.T) []scareArgs {
	f, good := birdField(t), goodScare()
	list := []scareArgs{
		{f: f},
		{f: f, list: []impl.Scarecrow{good}, targets: setOf(0, 2, 12), cells: []int64{0, 12}},
		{f: f, list: []impl.Scarecrow{good, {Cell: 2, Power: 9}}, targets: everything(), cells: []int64{3, -1, math.MinInt64, math.MaxInt64}},
		{f: plainField(t, 10, 10), list: scareRow(20), targets: setOf(0, 9, 90, 99), cells: []int64{99, 99, 100}},
	}
	for _, broken := range brokenFields() {
		list = append(list, scareArgs{f: broken, list: []impl.Scarecrow{{Cell: 0, Power: 1}}}, scareArgs{f: broken, targets: everything(), cells: []int64{-1, 300}})
	}
	for _, broken := range brokenLists() {
		list = append(list, scareArgs{f: f, list: broken, targets: everything(), cells: []int64{0}})
	}
	return list
}

// P1: functions return for all arguments, with equal results for equal ones, and with zero values beside an error.
func TestP1ScareCallsReturn(t *testing.T) {
	numbers := []int64{math.MinInt64, -1, 0, 1, 2, 12, 20, 99, 100, 1000, 1001, 20000, 65537, math.MaxInt64}
	for _, call := range scareCalls() {
		for _, x := range someScareArgs(t) {
			for i, n := range numbers {
				for j, m := range numbers {
					x.a, x.b, x.c = n, m, numbers[(i+2*j)%len(numbers)]
					checkTwice(t, call.name, x, func() []any { return call.run(x) })
				}
			}
		}
	}
}

// wantInvalidScares expects ErrInvalid, whatever else is wrong with the other arguments.
func wantInvalidScares(t *testing.T, call scareCall, name string, x scareArgs) {
	t.Helper()
	for _, n := range []int64{0, 1, 3, 10, -1, 1001, 20001, math.MaxInt64} {
		x.a, x.b, x.c = n, n, n
		for _, x.cells = range [][]int64{nil, {3}, {-1, 300}} {
			results := call.run(x)
			want(t, call.name+" with "+name, results[len(results)-1], any(int64(impl.ErrInvalid)))
		}
	}
}

// P1, Validity: ErrInvalid comes before all other errors, for all that is not valid.
func TestP1InvalidScaresAreRefused(t *testing.T) {
	for _, call := range scareCalls() {
		for name, broken := range brokenFields() {
			wantInvalidScares(t, call, name, scareArgs{f: broken})
			wantInvalidScares(t, call, name+" and a scarecrow", scareArgs{f: broken, list: []impl.Scarecrow{{Cell: 0, Power: 1}}, targets: everything()})
		}
		for name, broken := range brokenLists() {
			if call.list {
				wantInvalidScares(t, call, name, scareArgs{f: birdField(t), list: broken, targets: everything()})
			}
		}
		if call.list {
			wantInvalidScares(t, call, "more than MaxScares", scareArgs{f: plainField(t, 10, 10), list: scareRow(21)})
		}
	}
}

// scareLists returns arguments with which each function finds something.
func scareLists(t *testing.T) scareArgs {
	return scareArgs{
		f:       plainField(t, 10, 3),
		list:    []impl.Scarecrow{{Cell: 9, Power: 9}, {Cell: 10, Power: 20, Age: 4}, {Cell: 19, Power: 1, Age: 30}},
		targets: setOf(0, 4, 19),
		cells:   []int64{0, 4, 19},
	}
}

// P1, Purity: no argument is modified, nor the unused capacity of a slice.
func TestP1ScaresAndPlacesStay(t *testing.T) {
	scares := append(scareLists(t).list, impl.Scarecrow{Cell: -7, Power: -7, Age: -7}, goodScare())
	cells := []int64{0, 4, 19, -7, 300}
	scaresBefore, cellsBefore := slices.Clone(scares), slices.Clone(cells)
	x := scareLists(t)
	for _, count := range []int{0, 1, 2, 3, 4} {
		x.list, x.cells = scares[:count], cells[:count]
		for _, call := range scareCalls() {
			for _, x.a = range []int64{0, 1, 2, 11, 30, 1000} {
				for _, x.b = range []int64{1, 3, 11, 20} {
					x.c = 10
					call.run(x)
				}
			}
		}
		impl.ValidScares(x.f, x.list)
		impl.SameScares(x.list, x.list)
		impl.ScaresText(x.list)
		want(t, "scarecrows", scares, scaresBefore)
		want(t, "cells", cells, cellsBefore)
	}
}

// P1, Purity: lists that are returned share memory neither with an argument nor with each other.
func TestP1ScareListsAreNew(t *testing.T) {
	for _, call := range scareCalls() {
		x, before := scareLists(t), scareLists(t)
		x.a, x.b, x.c = 2, 20, 10
		if call.name == "FewestPlaces" {
			x.a = impl.MaxLooks
		}
		first, second, third := call.run(x), call.run(x), call.run(x)
		want(t, call.name, first[len(first)-1], any(int64(impl.OK)))
		for _, result := range first {
			if v := reflect.ValueOf(result); v.Kind() == reflect.Slice {
				want(t, call.name+" has a list", v.Len() > 0, true)
			}
			wearAny(result)
		}
		want(t, call.name, second, third)
		want(t, call.name+", again", call.run(x), third)
		want(t, call.name+", its scarecrows", x.list, before.list)
		want(t, call.name+", its cells", x.cells, before.cells)
	}
	one, _ := impl.ReadScares("1:20/4")
	two, _ := impl.ReadScares("1:20/4")
	wearAny(one)
	want(t, "ReadScares", two, []impl.Scarecrow{goodScare()})
}

// P1: what is added to one list is not found in another one that came from the same scarecrows.
func TestP1AddedScaresAreApart(t *testing.T) {
	f := birdField(t)
	backing := make([]impl.Scarecrow, 1, 9)
	backing[0] = goodScare()
	one, _ := impl.AddScare(f, backing, 0, 1)
	two, _ := impl.AddScare(f, backing, 2, 2)
	want(t, "one", one, []impl.Scarecrow{goodScare(), {Cell: 0, Power: 1}})
	want(t, "two", two, []impl.Scarecrow{goodScare(), {Cell: 2, Power: 2}})
	want(t, "the unused capacity", backing[:9], append([]impl.Scarecrow{goodScare()}, make([]impl.Scarecrow, 8)...))
}
