package tests

import (
	"slices"
	"testing"

	"loop.example/g01338/impl"
)

func TestScareConstants(t *testing.T) {
	want(t, "limits", [4]int64{impl.MaxScares, impl.MaxPower, impl.MaxAge, impl.MaxLooks}, [4]int64{20, 1000, 30, 20000})
}

func TestExampleOfChapter3(t *testing.T) {
	f, row := plainField(t, 3, 2), plainField(t, 3, 1)
	list := []impl.Scarecrow{{Cell: 0, Power: 20}}
	old, code := impl.AgeScares(f, list, 3)
	wantCode(t, "AgeScares", code, impl.OK)
	want(t, "AgeScares", old, []impl.Scarecrow{{Cell: 0, Power: 20, Age: 3}})
	for cell, wanted := range map[int64][2]int64{0: {20, 10}, 1: {10, 5}, 11: {6, 3}} {
		fear, code := impl.FearOf(f, list, cell)
		want(t, "FearOf", [2]int64{fear, code}, [2]int64{wanted[0], impl.OK})
		fear, code = impl.FearOf(f, old, cell)
		want(t, "FearOf with the age 3", [2]int64{fear, code}, [2]int64{wanted[1], impl.OK})
	}
	places, looks, code := impl.FewestPlaces(row, 20, 10, setOf(0, 1, 2), 20000)
	want(t, "FewestPlaces with 10", [2]int64{looks, code}, [2]int64{2, impl.OK})
	wantList(t, "FewestPlaces with 10", places, 1)
	places, looks, code = impl.FewestPlaces(row, 20, 15, setOf(0, 1, 2), 20000)
	want(t, "FewestPlaces with 15", [2]int64{looks, code}, [2]int64{6, impl.OK})
	wantList(t, "FewestPlaces with 15", places, 0, 1, 2)
	days, code := impl.DaysSafe(f, list, 0, 10)
	want(t, "DaysSafe", [2]int64{days, code}, [2]int64{6, impl.OK})
}

func TestValidScares(t *testing.T) {
	f, good := birdField(t), goodScare()
	for name, list := range brokenLists() {
		want(t, name, impl.ValidScares(f, list), false)
	}
	for _, cell := range []int16{0, 1, 2, 11, 12, 13} {
		for _, power := range []int16{1, 2, 999, 1000} {
			for _, age := range []int8{0, 1, 2, 3, 29, 30} {
				want(t, "a scarecrow", impl.ValidScares(f, []impl.Scarecrow{{Cell: cell, Power: power, Age: age}}), true)
			}
		}
	}
	want(t, "no scarecrows", impl.ValidScares(f, nil), true)
	want(t, "no scarecrows, an empty list", impl.ValidScares(f, []impl.Scarecrow{}), true)
	want(t, "several", impl.ValidScares(f, []impl.Scarecrow{good, {Cell: 13, Power: 1}, {Cell: 0, Power: 1000, Age: 30}}), true)
	full := plainField(t, 10, 10)
	want(t, "MaxScares", impl.ValidScares(full, scareRow(20)), true)
	want(t, "more than MaxScares", impl.ValidScares(full, scareRow(21)), false)
	want(t, "the last cell", impl.ValidScares(full, []impl.Scarecrow{{Cell: 99, Power: 1}, {Cell: 64, Power: 1}, {Cell: 63, Power: 1}}), true)
	want(t, "two in the last cell", impl.ValidScares(full, []impl.Scarecrow{{Cell: 99, Power: 1}, {Cell: 99, Power: 2}}), false)
	for _, s := range someScenes() {
		want(t, "scarecrows of a scene", impl.ValidScares(s.f, s.list), true)
	}
	for name, broken := range brokenFields() {
		want(t, "no scarecrows of a field with "+name, impl.ValidScares(broken, nil), false)
		want(t, "a scarecrow of a field with "+name, impl.ValidScares(broken, []impl.Scarecrow{{Cell: 0, Power: 1}}), false)
	}
}

func TestSameScares(t *testing.T) {
	good := goodScare()
	want(t, "nil and empty", impl.SameScares(nil, []impl.Scarecrow{}), true)
	want(t, "none and one", impl.SameScares(nil, []impl.Scarecrow{good}), false)
	want(t, "one and none", impl.SameScares([]impl.Scarecrow{good}, nil), false)
	want(t, "one and two", impl.SameScares([]impl.Scarecrow{good}, []impl.Scarecrow{good, good}), false)
	want(t, "more than MaxScares", impl.SameScares(scareRow(30), scareRow(30)), true)
	others := brokenScares()
	others["another cell"] = impl.Scarecrow{Cell: 2, Power: 20, Age: 4}
	others["another power"] = impl.Scarecrow{Cell: 1, Power: 21, Age: 4}
	others["another age"] = impl.Scarecrow{Cell: 1, Power: 20, Age: 5}
	for name, s := range others {
		want(t, name+" and itself", impl.SameScares([]impl.Scarecrow{good, s}, []impl.Scarecrow{good, s}), true)
		want(t, name+" and another one", impl.SameScares([]impl.Scarecrow{good, s}, []impl.Scarecrow{good, good}), false)
		want(t, name+" in another order", impl.SameScares([]impl.Scarecrow{good, s}, []impl.Scarecrow{s, good}), false)
	}
}

func TestFearByAge(t *testing.T) {
	f := plainField(t, 2, 1)
	cases := []struct {
		power  int16
		age    int8
		wanted int64
	}{
		{20, 0, 20}, {20, 1, 20}, {20, 2, 20}, {20, 3, 10}, {20, 5, 10}, {20, 6, 5}, {20, 9, 2}, {20, 12, 1}, {20, 15, 0}, {20, 30, 0},
		{1, 0, 1}, {1, 2, 1}, {1, 3, 0}, {1, 30, 0}, {7, 3, 3}, {7, 6, 1}, {7, 9, 0},
		{1000, 0, 1000}, {1000, 2, 1000}, {1000, 3, 500}, {1000, 9, 125}, {1000, 12, 62}, {1000, 24, 3},
		{1000, 26, 3}, {1000, 27, 1}, {1000, 29, 1}, {1000, 30, 0}, {999, 3, 499}, {512, 27, 1}, {511, 27, 0},
	}
	for _, c := range cases {
		fear, code := impl.FearOf(f, []impl.Scarecrow{{Cell: 0, Power: c.power, Age: c.age}}, 0)
		want(t, "FearOf its own cell", [2]int64{fear, code}, [2]int64{c.wanted, impl.OK})
		fear, code = impl.FearOf(f, []impl.Scarecrow{{Cell: 1, Power: c.power, Age: c.age}}, 0)
		want(t, "FearOf the cell beside it", [2]int64{fear, code}, [2]int64{c.wanted / 2, impl.OK})
	}
}

func TestFearOfSeveral(t *testing.T) {
	f := fieldOf(t, "3 h 5 t", "t 2 0 p")
	list := []impl.Scarecrow{{Cell: 0, Power: 30, Age: 3}, {Cell: 13, Power: 16}, {Cell: 1, Power: 1}}
	for cell, wanted := range map[int64]int64{0: 15, 1: 7, 2: 5, 3: 8, 10: 7, 11: 5, 12: 8, 13: 16} {
		fear, code := impl.FearOf(f, list, cell)
		want(t, "FearOf", [2]int64{fear, code}, [2]int64{wanted, impl.OK})
		fear, code = impl.FearOf(f, nil, cell)
		want(t, "FearOf without scarecrows", [2]int64{fear, code}, [2]int64{0, impl.OK})
	}
	fears, code := impl.FearMap(f, list)
	wantCode(t, "FearMap", code, impl.OK)
	want(t, "FearMap", fears, [100]int16{0: 15, 1: 7, 2: 5, 3: 8, 10: 7, 11: 5, 12: 8, 13: 16})
	safe, code := impl.SafeCells(f, list, 8)
	wantCode(t, "SafeCells", code, impl.OK)
	want(t, "SafeCells", safe, setOf(0, 12))
}

// Far numbers are no cells, and least fears and days that are out of range are no others.
func TestRangesOfFear(t *testing.T) {
	f, list := birdField(t), []impl.Scarecrow{goodScare()}
	for _, n := range farNumbers {
		cellCode, leastCode, daysCode := int64(impl.OK), int64(impl.OK), int64(impl.OK)
		if !isCell(f, n) {
			cellCode = impl.ErrRange
		}
		if n < 1 || n > 1000 {
			leastCode = impl.ErrRange
		}
		if n < 0 || n > 1000 {
			daysCode = impl.ErrRange
		}
		_, code := impl.FearOf(f, list, n)
		wantCode(t, "FearOf", code, cellCode)
		_, code = impl.DaysSafe(f, list, n, 1)
		wantCode(t, "DaysSafe, cell", code, cellCode)
		_, code = impl.DaysSafe(f, list, 0, n)
		wantCode(t, "DaysSafe, least", code, leastCode)
		_, code = impl.SafeCells(f, list, n)
		wantCode(t, "SafeCells", code, leastCode)
		_, code = impl.UselessScares(f, list, n)
		wantCode(t, "UselessScares", code, leastCode)
		_, code = impl.LongestSafe(f, list, setOf(0), n)
		wantCode(t, "LongestSafe", code, leastCode)
		_, code = impl.LongestSafe(f, list, impl.Cells{}, n)
		wantCode(t, "LongestSafe without targets", code, leastCode)
		_, code = impl.AgeScares(f, list, n)
		wantCode(t, "AgeScares", code, daysCode)
	}
}

func TestFearIsAsTold(t *testing.T) {
	for _, s := range someScenes() {
		fears, code := impl.FearMap(s.f, s.list)
		wantCode(t, "FearMap", code, impl.OK)
		for n := range int64(100) {
			if !isCell(s.f, n) {
				want(t, "FearMap of a number that is no cell", fears[n], 0)
				continue
			}
			fear, code := impl.FearOf(s.f, s.list, n)
			want(t, "FearOf", [2]int64{fear, code}, [2]int64{fearIn(s.list, n), impl.OK})
			want(t, "FearMap", int64(fears[n]), fear)
			days, code := impl.DaysSafe(s.f, s.list, n, s.least)
			want(t, "DaysSafe", [2]int64{days, code}, [2]int64{daysIn(s.list, n, s.least), impl.OK})
		}
		for _, least := range []int64{1, 7, 100, s.least, 1000} {
			safe, code := impl.SafeCells(s.f, s.list, least)
			wantCode(t, "SafeCells", code, impl.OK)
			want(t, "SafeCells", safe, safeIn(s.f, s.list, least))
		}
	}
}

func TestAgeScares(t *testing.T) {
	f := birdField(t)
	cases := []struct {
		age  int8
		days int64
		want int8
	}{
		{0, 0, 0}, {0, 1, 1}, {0, 2, 2}, {0, 3, 3}, {2, 1, 3}, {0, 29, 29}, {0, 30, 30}, {0, 31, 30}, {0, 1000, 30},
		{29, 0, 29}, {29, 1, 30}, {29, 2, 30}, {30, 0, 30}, {30, 1, 30}, {30, 97, 30}, {30, 98, 30}, {30, 128, 30}, {30, 256, 30}, {30, 1000, 30},
	}
	for _, c := range cases {
		list := []impl.Scarecrow{{Cell: 1, Power: 20, Age: c.age}, {Cell: 0, Power: 9, Age: 30}}
		aged, code := impl.AgeScares(f, list, c.days)
		wantCode(t, "AgeScares", code, impl.OK)
		want(t, "AgeScares", aged, []impl.Scarecrow{{Cell: 1, Power: 20, Age: c.want}, {Cell: 0, Power: 9, Age: 30}})
	}
	aged, code := impl.AgeScares(f, nil, 5)
	wantCode(t, "AgeScares of none", code, impl.OK)
	want(t, "AgeScares of none", len(aged), 0)
	for _, s := range someScenes() {
		for _, days := range []int{0, 1, 7, 30, 1000} {
			aged, code := impl.AgeScares(s.f, s.list, int64(days))
			wantCode(t, "AgeScares of a scene", code, impl.OK)
			want(t, "AgeScares of a scene", impl.SameScares(aged, agedBy(s.list, days)), true)
			want(t, "older scarecrows are valid", impl.ValidScares(s.f, aged), true)
		}
	}
}

func TestMoveScare(t *testing.T) {
	f := birdField(t)
	list := []impl.Scarecrow{goodScare(), {Cell: 13, Power: 1000, Age: 30}, {Cell: 0, Power: 1}}
	cases := []struct {
		name      string
		index, to int64
		code      int64
	}{
		{"soil", 0, 2, impl.OK},
		{"soil of another row", 1, 11, impl.OK},
		{"the last one", 2, 12, impl.OK},
		{"a tree", 0, 3, impl.ErrState},
		{"another tree", 2, 10, impl.ErrState},
		{"the cell of another one", 0, 13, impl.ErrState},
		{"the cell of the last one", 1, 0, impl.ErrState},
		{"its own cell", 0, 1, impl.ErrState},
		{"its own cell, the last one", 2, 0, impl.ErrState},
		{"no scarecrow", 3, 2, impl.ErrRange},
		{"no scarecrow, less than 0", -1, 2, impl.ErrRange},
		{"no scarecrow, far", 1 << 32, 2, impl.ErrRange},
		{"no cell, east", 0, 4, impl.ErrRange},
		{"no cell, south", 0, 20, impl.ErrRange},
		{"no cell, less than 0", 0, -1, impl.ErrRange},
		{"no cell, soil and 65536", 0, 65538, impl.ErrRange},
		{"ErrRange before ErrState, a tree", 3, 3, impl.ErrRange},
		{"ErrRange before ErrState, a scarecrow", 3, 1, impl.ErrRange},
	}
	for _, c := range cases {
		moved, code := impl.MoveScare(f, list, c.index, c.to)
		wantCode(t, c.name, code, c.code)
		if c.code != impl.OK {
			want(t, c.name, len(moved), 0)
			continue
		}
		wanted := slices.Clone(list)
		wanted[c.index] = impl.Scarecrow{Cell: int16(c.to), Power: list[c.index].Power}
		want(t, c.name, moved, wanted)
		want(t, c.name, impl.ValidScares(f, moved), true)
	}
	_, code := impl.MoveScare(f, nil, 0, 0)
	wantCode(t, "MoveScare of none", code, impl.ErrRange)
	moved, code := impl.MoveScare(plainField(t, 10, 10), scareRow(20), 19, 99)
	wantCode(t, "MoveScare of MaxScares", code, impl.OK)
	want(t, "MoveScare of MaxScares", moved[19], impl.Scarecrow{Cell: 99, Power: 20})
	cover := fieldOf(t, "3 h p t")
	for to, wanted := range map[int64]int64{1: impl.OK, 2: impl.OK, 3: impl.ErrState} {
		_, code := impl.MoveScare(cover, []impl.Scarecrow{{Cell: 0, Power: 1}}, 0, to)
		wantCode(t, "MoveScare to a hedge, a path and a tree", code, wanted)
	}
}

func TestAddScare(t *testing.T) {
	f := birdField(t)
	list := []impl.Scarecrow{goodScare(), {Cell: 0, Power: 9, Age: 30}}
	cases := []struct {
		name        string
		cell, power int64
		code        int64
	}{
		{"soil", 2, 20, impl.OK},
		{"a path", 13, 20, impl.OK},
		{"the least power", 11, 1, impl.OK},
		{"the greatest power", 12, 1000, impl.OK},
		{"a tree", 3, 20, impl.ErrState},
		{"another tree", 10, 20, impl.ErrState},
		{"the cell of another one", 1, 20, impl.ErrState},
		{"the cell of the last one", 0, 20, impl.ErrState},
		{"power 0", 2, 0, impl.ErrRange},
		{"power -1", 2, -1, impl.ErrRange},
		{"power 1001", 2, 1001, impl.ErrRange},
		{"power 1 and 65536", 2, 65537, impl.ErrRange},
		{"no cell, east", 4, 20, impl.ErrRange},
		{"no cell, south", 20, 20, impl.ErrRange},
		{"no cell, less than 0", -1, 20, impl.ErrRange},
		{"no cell, soil and 65536", 65538, 20, impl.ErrRange},
		{"ErrRange before ErrState, a tree", 3, 0, impl.ErrRange},
		{"ErrRange before ErrState, a scarecrow", 1, 1001, impl.ErrRange},
	}
	for _, c := range cases {
		added, code := impl.AddScare(f, list, c.cell, c.power)
		wantCode(t, c.name, code, c.code)
		if c.code != impl.OK {
			want(t, c.name, len(added), 0)
			continue
		}
		want(t, c.name, added, append(slices.Clone(list), impl.Scarecrow{Cell: int16(c.cell), Power: int16(c.power)}))
		want(t, c.name, impl.ValidScares(f, added), true)
	}
	added, code := impl.AddScare(f, nil, 1, 7)
	wantCode(t, "the first one", code, impl.OK)
	want(t, "the first one", added, []impl.Scarecrow{{Cell: 1, Power: 7}})
}

func TestAddScareAtTheLimit(t *testing.T) {
	f := plainField(t, 10, 10)
	f.Kinds[99], f.Seeds[99] = impl.KiTree, 0
	added, code := impl.AddScare(f, scareRow(19), 98, 3)
	wantCode(t, "up to MaxScares", code, impl.OK)
	want(t, "up to MaxScares", added, append(scareRow(19), impl.Scarecrow{Cell: 98, Power: 3}))
	cases := []struct {
		name        string
		cell, power int64
		code        int64
	}{
		{"more than MaxScares", 98, 3, impl.ErrLimit},
		{"a tree before ErrLimit", 99, 3, impl.ErrState},
		{"a scarecrow before ErrLimit", 19, 3, impl.ErrState},
		{"no cell before ErrLimit", 100, 3, impl.ErrRange},
		{"no power before ErrLimit", 98, 0, impl.ErrRange},
		{"no power before a tree", 99, 0, impl.ErrRange},
	}
	for _, c := range cases {
		added, code := impl.AddScare(f, scareRow(20), c.cell, c.power)
		wantCode(t, c.name, code, c.code)
		want(t, c.name, len(added), 0)
	}
}

func TestDaysSafe(t *testing.T) {
	f := fieldOf(t, "5 h p t 5")
	young, old := impl.Scarecrow{Cell: 0, Power: 20}, impl.Scarecrow{Cell: 0, Power: 20, Age: 2}
	strong := impl.Scarecrow{Cell: 0, Power: 1000}
	cases := []struct {
		name        string
		list        []impl.Scarecrow
		cell, least int64
		wanted      int64
	}{
		{"no scarecrows", nil, 0, 1, 0},
		{"as long as it is new", []impl.Scarecrow{young}, 0, 20, 3},
		{"until it is half", []impl.Scarecrow{young}, 0, 11, 3},
		{"just half", []impl.Scarecrow{young}, 0, 10, 6},
		{"to the last", []impl.Scarecrow{young}, 0, 1, 15},
		{"not now", []impl.Scarecrow{young}, 0, 21, 0},
		{"its third day", []impl.Scarecrow{old}, 0, 20, 1},
		{"its third day, and half", []impl.Scarecrow{old}, 0, 10, 4},
		{"a hedge", []impl.Scarecrow{young}, 1, 10, 3},
		{"a path", []impl.Scarecrow{young}, 2, 4, 3},
		{"a tree", []impl.Scarecrow{young}, 3, 1, 6},
		{"far", []impl.Scarecrow{young}, 4, 1, 3},
		{"too far", []impl.Scarecrow{young}, 4, 2, 0},
		{"MaxPower to the last", []impl.Scarecrow{strong}, 0, 1, 30},
		{"MaxPower as least", []impl.Scarecrow{strong}, 0, 1000, 3},
		{"MaxPower of MaxAge", []impl.Scarecrow{{Cell: 0, Power: 1000, Age: 30}}, 0, 1, 0},
		{"MaxPower of MaxAge, less 1", []impl.Scarecrow{{Cell: 0, Power: 1000, Age: 29}}, 0, 1, 1},
		{"the one that lasts longer", []impl.Scarecrow{young, {Cell: 4, Power: 1000}}, 0, 10, 9},
		{"the one that lasts longer, first", []impl.Scarecrow{{Cell: 4, Power: 1000}, young}, 0, 10, 9},
		{"one behind the other", []impl.Scarecrow{{Cell: 0, Power: 12, Age: 29}, {Cell: 1, Power: 24, Age: 1}}, 0, 12, 2},
	}
	for _, c := range cases {
		days, code := impl.DaysSafe(f, c.list, c.cell, c.least)
		want(t, c.name, [2]int64{days, code}, [2]int64{c.wanted, impl.OK})
	}
}

func TestLongestSafe(t *testing.T) {
	f := fieldOf(t, "5 h p t 5", "5 5 5 5 5")
	list := []impl.Scarecrow{{Cell: 0, Power: 20}}
	cases := []struct {
		name    string
		targets impl.Cells
		least   int64
		wanted  int64
	}{
		{"no targets", impl.Cells{}, 1, 1000},
		{"its own cell", setOf(0), 10, 6},
		{"the cell beside it", setOf(10), 10, 3},
		{"both", setOf(0, 10), 10, 3},
		{"one that is not safe now", setOf(0, 10, 4), 10, 0},
		{"cells that are no soil", setOf(1, 2, 3), 10, 1000},
		{"soil and cells that are none", setOf(0, 1, 2, 3), 10, 6},
		{"numbers that are no cells", setOf(5, 20, 99), 10, 1000},
		{"bits of numbers greater than 99", withStrays(setOf(0, 5, 99)), 10, 6},
		{"no targets but such bits", strayBits(), 10, 1000},
		{"all cells", impl.Cells{^uint64(0), ^uint64(0)}, 1, 3},
	}
	for _, c := range cases {
		days, code := impl.LongestSafe(f, list, c.targets, c.least)
		want(t, c.name, [2]int64{days, code}, [2]int64{c.wanted, impl.OK})
	}
	days, code := impl.LongestSafe(f, nil, setOf(0), 1)
	want(t, "no scarecrows", [2]int64{days, code}, [2]int64{0, impl.OK})
	days, code = impl.LongestSafe(f, nil, setOf(1), 1)
	want(t, "no scarecrows, and no targets", [2]int64{days, code}, [2]int64{1000, impl.OK})
	for _, s := range someScenes() {
		wanted := int64(1000)
		for _, n := range soilOf(s.f, s.targets) {
			wanted = min(wanted, daysIn(s.list, n, s.least))
		}
		days, code := impl.LongestSafe(s.f, s.list, s.targets, s.least)
		want(t, "LongestSafe of a scene", [2]int64{days, code}, [2]int64{wanted, impl.OK})
	}
}

func TestUselessScares(t *testing.T) {
	f := fieldOf(t, "5 5 5 h")
	cases := []struct {
		name   string
		list   []impl.Scarecrow
		least  int64
		wanted []int64
	}{
		{"none", nil, 1, nil},
		{"one that is needed", []impl.Scarecrow{{Cell: 0, Power: 20}}, 20, nil},
		{"one that is too weak", []impl.Scarecrow{{Cell: 0, Power: 19}}, 20, []int64{0}},
		{"one that is too old", []impl.Scarecrow{{Cell: 0, Power: 1000, Age: 30}}, 1, []int64{0}},
		{"one that is too far from soil", []impl.Scarecrow{{Cell: 3, Power: 20}}, 11, []int64{0}},
		{"one that is near to soil", []impl.Scarecrow{{Cell: 3, Power: 20}}, 10, nil},
		{"two alike", []impl.Scarecrow{{Cell: 0, Power: 20}, {Cell: 1, Power: 20}}, 10, []int64{0}},
		{"each one alone, but not both", []impl.Scarecrow{{Cell: 0, Power: 100}, {Cell: 1, Power: 100}}, 20, []int64{0, 1}},
		{"the first and the last", []impl.Scarecrow{{Cell: 0, Power: 9}, {Cell: 1, Power: 20}, {Cell: 2, Power: 9}}, 10, []int64{0, 2}},
		{"the one between", []impl.Scarecrow{{Cell: 0, Power: 20}, {Cell: 1, Power: 20}, {Cell: 2, Power: 20}}, 20, nil},
	}
	for _, c := range cases {
		useless, code := impl.UselessScares(f, c.list, c.least)
		wantCode(t, c.name, code, impl.OK)
		wantList(t, c.name, useless, c.wanted...)
	}
	for _, s := range someScenes() {
		var wanted []int64
		for i := range s.list {
			others := append(slices.Clone(s.list[:i]), s.list[i+1:]...)
			if safeIn(s.f, others, s.least) == safeIn(s.f, s.list, s.least) {
				wanted = append(wanted, int64(i))
			}
		}
		useless, code := impl.UselessScares(s.f, s.list, s.least)
		wantCode(t, "UselessScares of a scene", code, impl.OK)
		wantList(t, "UselessScares of a scene", useless, wanted...)
	}
}

// P6: a new scarecrow frightens no less than an old one, anywhere, and as long.
func TestP6NewScarecrowsFrightenNoLess(t *testing.T) {
	f := birdField(t)
	for power := int16(1); power <= impl.MaxPower; power++ {
		last := [100]int16{}
		for age := int8(impl.MaxAge); age >= 0; age-- {
			fears, code := impl.FearMap(f, []impl.Scarecrow{{Cell: 1, Power: power, Age: age}})
			wantCode(t, "FearMap", code, impl.OK)
			for n := range fears {
				if fears[n] < last[n] {
					t.Fatalf("power %d, cell %d: the fear is %d with the age %d, and %d a day later", power, n, fears[n], age, last[n])
				}
			}
			last = fears
		}
		want(t, "its power, while it is new", last[1], power)
	}
}

// P6: scarecrows that have grown older frighten no more than before, and keep no more cells safe, nor longer.
func TestP6OlderScarecrowsFrightenNoMore(t *testing.T) {
	for _, s := range someScenes() {
		before, _ := impl.FearMap(s.f, s.list)
		safe, _ := impl.SafeCells(s.f, s.list, s.least)
		longest, _ := impl.LongestSafe(s.f, s.list, s.targets, s.least)
		for _, days := range []int64{0, 1, 2, 3, 6, 30, 1000} {
			old, code := impl.AgeScares(s.f, s.list, days)
			wantCode(t, "AgeScares", code, impl.OK)
			after, _ := impl.FearMap(s.f, old)
			for n := range after {
				want(t, "no more fear", after[n] <= before[n], true)
				want(t, "all fear, if no day has passed", days > 0 || after[n] == before[n], true)
			}
			still, _ := impl.SafeCells(s.f, old, s.least)
			want(t, "no more cells are safe", impl.WithoutOf(still, safe), impl.Cells{})
			shorter, _ := impl.LongestSafe(s.f, old, s.targets, s.least)
			want(t, "no longer safe", shorter <= longest, true)
		}
	}
}

// P6: a scarecrow that is moved frightens as a new one does.
func TestP6MovedScarecrowsAreNew(t *testing.T) {
	f := plainField(t, 10, 10)
	for age := int8(0); age <= impl.MaxAge; age++ {
		for _, power := range []int16{1, 2, 7, 20, 999, 1000} {
			old := []impl.Scarecrow{{Cell: 0, Power: power, Age: age}}
			moved, code := impl.MoveScare(f, old, 0, 55)
			wantCode(t, "MoveScare", code, impl.OK)
			added, code := impl.AddScare(f, nil, 55, int64(power))
			wantCode(t, "AddScare", code, impl.OK)
			movedFear, _ := impl.FearMap(f, moved)
			addedFear, _ := impl.FearMap(f, added)
			want(t, "a moved one and a new one", movedFear, addedFear)
			here, _ := impl.FearOf(f, old, 0)
			there, _ := impl.FearOf(f, moved, 55)
			want(t, "no less than before", there >= here && there == int64(power), true)
		}
	}
}
