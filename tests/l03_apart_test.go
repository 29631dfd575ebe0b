package tests

import (
	"slices"
	"testing"

	"loop.example/g01338/impl"
)

func TestApartCells(t *testing.T) {
	row := plainField(t, 7, 1)
	checkTargets(t, impl.ApartCells, []targetsCase{
		{"no targets", row, 20, 10, impl.Cells{}, impl.OK, nil},
		{"one", row, 20, 10, setOf(4), impl.OK, []int64{4}},
		{"two that a third one covers", row, 20, 10, setOf(2, 4), impl.OK, []int64{2}},
		{"two that are beside each other", row, 20, 10, setOf(2, 3), impl.OK, []int64{2}},
		{"two that are apart", row, 20, 10, setOf(2, 5), impl.OK, []int64{2, 5}},
		{"the first ones", row, 20, 10, everything(), impl.OK, []int64{0, 3, 6}},
		{"from the second one on", row, 20, 10, setOf(1, 2, 3, 4, 5, 6), impl.OK, []int64{1, 4}},
		{"each one for itself", row, 20, 20, everything(), impl.OK, []int64{0, 1, 2, 3, 4, 5, 6}},
		{"nothing is covered", row, 9, 10, everything(), impl.OK, []int64{0, 1, 2, 3, 4, 5, 6}},
		{"a hedge covers both", fieldOf(t, "5 h 5"), 20, 10, everything(), impl.OK, []int64{0}},
		{"a path covers both", fieldOf(t, "5 p 5"), 20, 10, everything(), impl.OK, []int64{0}},
		{"a tree covers none", fieldOf(t, "5 t 5"), 20, 10, everything(), impl.OK, []int64{0, 2}},
		{"targets that are no soil", fieldOf(t, "h t p"), 20, 10, everything(), impl.OK, nil},
		{"targets that are no cells", row, 20, 10, setOf(7, 10, 99), impl.OK, nil},
		{"bits of numbers greater than 99", row, 20, 10, withStrays(setOf(6)), impl.OK, []int64{6}},
		{"more than MaxScares", plainField(t, 7, 3), 20, 20, everything(), impl.OK, impl.ListOf(setOf(0, 1, 2, 3, 4, 5, 6, 10, 11, 12, 13, 14, 15, 16, 20, 21, 22, 23, 24, 25, 26))},
	})
}

func TestCheckApart(t *testing.T) {
	f := fieldOf(t, "5 h 5 t 5 5 5", "p 5 5 5 5 5 t")
	cases := []struct {
		name         string
		power, least int64
		list         []int64
		wanted       bool
	}{
		{"none", 20, 10, nil, true},
		{"one", 20, 10, []int64{0}, true},
		{"two that are apart", 20, 10, []int64{0, 13}, true},
		{"two that are apart, backward", 20, 10, []int64{13, 0}, true},
		{"three that are apart", 20, 10, []int64{6, 0, 13}, true},
		{"two that a hedge covers", 20, 10, []int64{0, 2}, false},
		{"two that a path covers", 20, 10, []int64{0, 11}, false},
		{"two with only a tree between", 20, 10, []int64{2, 4}, true},
		{"two that are beside each other", 20, 10, []int64{4, 5}, false},
		{"two, the first and the last of three", 20, 10, []int64{0, 13, 5, 11}, false},
		{"the same one twice", 20, 10, []int64{0, 0}, false},
		{"the same one twice, with another one between", 20, 10, []int64{0, 13, 0}, false},
		{"all, if each one covers itself only", 20, 20, []int64{0, 2, 4, 5, 6, 11, 12, 13, 14, 15}, true},
		{"all, if nothing is covered", 9, 10, []int64{0, 2, 4, 5, 6, 11, 12, 13, 14, 15}, true},
		{"the same one twice, if nothing is covered", 9, 10, []int64{0, 2, 0}, false},
		{"a hedge", 20, 10, []int64{1}, false},
		{"a path", 20, 10, []int64{0, 10}, false},
		{"a tree", 20, 10, []int64{3, 0}, false},
		{"a hedge, if nothing is covered", 9, 10, []int64{1}, false},
		{"no cell, east", 9, 10, []int64{7}, false},
		{"no cell, south", 9, 10, []int64{0, 20}, false},
		{"no cell, less than 0", 9, 10, []int64{-1}, false},
		{"no cell, 100", 9, 10, []int64{100}, false},
		{"no cell, soil and 65536", 9, 10, []int64{65536}, false},
	}
	for _, c := range cases {
		apart, code := impl.CheckApart(f, c.power, c.least, c.list)
		wantCode(t, c.name, code, impl.OK)
		want(t, c.name, apart, c.wanted)
	}
	for _, n := range farNumbers {
		apart, code := impl.CheckApart(f, 20, 10, []int64{n})
		wantCode(t, "CheckApart of a number", code, impl.OK)
		want(t, "CheckApart of a number", apart, isSoilCell(f, n))
	}
	apart, code := impl.CheckApart(f, 9, 10, make([]int64, 1000000))
	wantCode(t, "a million cells", code, impl.OK)
	want(t, "a million cells", apart, false)
}

// P7: cells that are apart are those that the rules tell, and no cell covers two of them.
func TestP7CellsAreApart(t *testing.T) {
	for _, s := range append(someScenes(), smallScenes(t)...) {
		covers := coversIn(s.f, s.power, s.least)
		var wanted []int64
		for _, n := range soilOf(s.f, s.targets) {
			if !slices.ContainsFunc(wanted, func(other int64) bool { return !areApart(covers, n, other) }) {
				wanted = append(wanted, n)
			}
		}
		apart, code := impl.ApartCells(s.f, s.power, s.least, s.targets)
		wantCode(t, "ApartCells", code, impl.OK)
		wantList(t, "ApartCells", apart, wanted...)
		fine, code := impl.CheckApart(s.f, s.power, s.least, apart)
		wantCode(t, "CheckApart", code, impl.OK)
		want(t, "CheckApart", fine, true)
		for _, n := range soilOf(s.f, s.targets) {
			fine, code := impl.CheckApart(s.f, s.power, s.least, append(slices.Clone(apart), n))
			wantCode(t, "CheckApart, one more", code, impl.OK)
			want(t, "CheckApart, one more", fine, false)
		}
	}
}

func TestCheckApartOfTwo(t *testing.T) {
	for _, s := range someScenes()[:40] {
		covers, soil := coversIn(s.f, s.power, s.least), soilOf(s.f, everything())
		for _, a := range soil[:min(3, len(soil))] {
			for _, b := range soil {
				fine, code := impl.CheckApart(s.f, s.power, s.least, []int64{a, b})
				wantCode(t, "CheckApart", code, impl.OK)
				want(t, "CheckApart", fine, a != b && areApart(covers, a, b))
			}
		}
	}
}
