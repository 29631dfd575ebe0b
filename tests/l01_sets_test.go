package tests

import (
	"testing"

	"loop.example/g01338/impl"
)

func TestHasCell(t *testing.T) {
	for n := range int64(100) {
		alone := setOf(int(n))
		for other := range int64(100) {
			want(t, "HasCell", impl.HasCell(alone, other), n == other)
		}
	}
	everything := impl.Cells{1<<64 - 1, 1<<64 - 1}
	for _, n := range farNumbers {
		want(t, "HasCell of everything", impl.HasCell(everything, n), n >= 0 && n <= 99)
		want(t, "HasCell of nothing", impl.HasCell(impl.Cells{}, n), false)
	}
	for n := int64(100); n < 128; n++ {
		want(t, "a bit of a number greater than 99", impl.HasCell(setOf(int(n)), n), false)
	}
}

func TestCountsAndLists(t *testing.T) {
	for _, c := range someSets() {
		var wanted []int64
		for n := range int64(100) {
			if isIn(c, n) {
				wanted = append(wanted, n)
			}
		}
		want(t, "CountCells", impl.CountCells(c), int64(len(wanted)))
		wantList(t, "ListOf", impl.ListOf(c), wanted...)
	}
	want(t, "the count of everything", impl.CountCells(impl.Cells{1<<64 - 1, 1<<64 - 1}), 100)
	want(t, "the count of stray bits", impl.CountCells(strayBits()), 0)
	wantList(t, "the list of stray bits", impl.ListOf(strayBits()))
}

func TestCellsOf(t *testing.T) {
	for _, list := range [][]int64{nil, {}, {0}, {63, 64}, {99, 0, 99}, {12, 11, 10, 12}} {
		var wanted impl.Cells
		for _, n := range list {
			wanted[n/64] |= 1 << (n % 64)
		}
		set, code := impl.CellsOf(list)
		wantCode(t, "CellsOf", code, impl.OK)
		want(t, "CellsOf", set, wanted)
	}
	for _, n := range farNumbers {
		if n < 0 || n > 99 {
			for _, list := range [][]int64{{n}, {1, n}, {n, 1}} {
				set, code := impl.CellsOf(list)
				wantCode(t, "CellsOf a number that is too great or too small", code, impl.ErrRange)
				want(t, "CellsOf with an error", set, impl.Cells{})
			}
		}
	}
	all := make([]int64, 100)
	for n := range all {
		all[n] = int64(99 - n)
	}
	set, code := impl.CellsOf(all)
	wantCode(t, "CellsOf all", code, impl.OK)
	want(t, "CellsOf all", impl.CountCells(set), 100)
}

func TestListsMakeTheirSets(t *testing.T) {
	for _, c := range someSets() {
		set, code := impl.CellsOf(impl.ListOf(c))
		wantCode(t, "CellsOf", code, impl.OK)
		want(t, "CellsOf of ListOf", set, impl.UnionOf(c, impl.Cells{}))
	}
}

func TestTwoSets(t *testing.T) {
	for _, a := range someSets() {
		for _, b := range someSets() {
			var union, both, without []int
			for n := range 100 {
				inA, inB := isIn(a, int64(n)), isIn(b, int64(n))
				if inA || inB {
					union = append(union, n)
				}
				if inA && inB {
					both = append(both, n)
				}
				if inA && !inB {
					without = append(without, n)
				}
			}
			want(t, "UnionOf", impl.UnionOf(a, b), setOf(union...))
			want(t, "BothOf", impl.BothOf(a, b), setOf(both...))
			want(t, "WithoutOf", impl.WithoutOf(a, b), setOf(without...))
		}
	}
}

// Each number greater than 99 alone, in one set or in the other one.
func TestStrayBitsAreLeftAway(t *testing.T) {
	for n := 100; n < 128; n++ {
		stray, good := setOf(5, 70, n), setOf(5, 70)
		want(t, "UnionOf, first", impl.UnionOf(stray, impl.Cells{}), good)
		want(t, "UnionOf, second", impl.UnionOf(impl.Cells{}, stray), good)
		want(t, "BothOf", impl.BothOf(stray, stray), good)
		want(t, "WithoutOf", impl.WithoutOf(stray, impl.Cells{}), good)
		want(t, "CountCells", impl.CountCells(stray), 2)
		wantList(t, "ListOf", impl.ListOf(stray), 5, 70)
	}
}

func TestSquareOf(t *testing.T) {
	f, _ := impl.PlainField(10, 10, 0)
	for a := range int64(100) {
		for b := range int64(100) {
			x, y := a%10-b%10, a/10-b/10
			square, code := impl.SquareOf(f, a, b)
			wantCode(t, "SquareOf", code, impl.OK)
			want(t, "SquareOf", square, x*x+y*y)
		}
	}
	small, _ := impl.PlainField(3, 2, 0)
	for _, n := range farNumbers {
		if !isCell(small, n) {
			first, code := impl.SquareOf(small, n, 0)
			want(t, "SquareOf, no first cell", [2]int64{first, code}, [2]int64{0, impl.ErrRange})
			second, code := impl.SquareOf(small, 0, n)
			want(t, "SquareOf, no second cell", [2]int64{second, code}, [2]int64{0, impl.ErrRange})
		}
	}
}

func TestRingOf(t *testing.T) {
	for _, f := range someFields() {
		for cell := range int64(100) {
			for _, square := range []int64{0, 1, 2, 4, 5, 8, 9, 161, 162, 199, 200} {
				checkRing(t, f, cell, square)
			}
		}
	}
	full, _ := impl.PlainField(10, 10, 0)
	for _, n := range farNumbers {
		if n < 0 || n > 200 {
			set, code := impl.RingOf(full, 0, n)
			wantCode(t, "a square out of range", code, impl.ErrRange)
			want(t, "a square out of range", set, impl.Cells{})
		}
		if !isCell(full, n) {
			_, code := impl.RingOf(full, n, 1)
			wantCode(t, "the ring of no cell", code, impl.ErrRange)
		}
	}
}

func checkRing(t *testing.T, f impl.Field, cell, square int64) {
	t.Helper()
	set, code := impl.RingOf(f, cell, square)
	if !isCell(f, cell) {
		wantCode(t, "RingOf of no cell", code, impl.ErrRange)
		want(t, "RingOf of no cell", set, impl.Cells{})
		return
	}
	var wanted []int
	for n := range int64(100) {
		x, y := n%10-cell%10, n/10-cell/10
		if isCell(f, n) && x*x+y*y <= square {
			wanted = append(wanted, int(n))
		}
	}
	wantCode(t, "RingOf", code, impl.OK)
	want(t, "RingOf", set, setOf(wanted...))
}

func TestRichestIn(t *testing.T) {
	for _, f := range someFields() {
		for _, set := range someSets() {
			best, most := int64(-1), int64(-1)
			for n := range int64(100) {
				if isCell(f, n) && isIn(set, n) && int64(f.Seeds[n]) > most {
					best, most = n, int64(f.Seeds[n])
				}
			}
			cell, seeds, code := impl.RichestIn(f, set)
			if best < 0 {
				want(t, "RichestIn nothing", [3]int64{cell, seeds, code}, [3]int64{0, 0, impl.ErrNotFound})
				continue
			}
			want(t, "RichestIn", [3]int64{cell, seeds, code}, [3]int64{best, most, impl.OK})
		}
	}
}

func TestRichestOfSeveral(t *testing.T) {
	f := fieldOf(t, "3 h 7 7", "7 t 0 p")
	cases := []struct {
		name        string
		set         impl.Cells
		cell, seeds int64
		code        int64
	}{
		{"the least number of several", setOf(0, 2, 3, 10), 2, 7, impl.OK},
		{"the least number of two", setOf(3, 10), 3, 7, impl.OK},
		{"a hedge only", setOf(1), 1, 0, impl.OK},
		{"a tree before soil without seeds", setOf(11, 12, 13), 11, 0, impl.OK},
		{"numbers that are no cells, too", setOf(4, 12, 20, 99, 100), 12, 0, impl.OK},
		{"only numbers that are no cells", setOf(4, 9, 20, 99), 0, 0, impl.ErrNotFound},
		{"only stray bits", strayBits(), 0, 0, impl.ErrNotFound},
		{"nothing", setOf(), 0, 0, impl.ErrNotFound},
	}
	for _, c := range cases {
		cell, seeds, code := impl.RichestIn(f, c.set)
		want(t, c.name, [3]int64{cell, seeds, code}, [3]int64{c.cell, c.seeds, c.code})
	}
}

func TestNeighboursOf(t *testing.T) {
	f, _ := impl.PlainField(10, 10, 0)
	cases := map[int64][]int64{
		0: {1, 10}, 9: {8, 19}, 90: {80, 91}, 99: {89, 98},
		4: {3, 5, 14}, 40: {30, 41, 50}, 49: {39, 48, 59}, 94: {84, 93, 95},
		55: {45, 54, 56, 65},
	}
	for cell, wanted := range cases {
		list, code := impl.NeighboursOf(f, cell)
		wantCode(t, "NeighboursOf", code, impl.OK)
		wantList(t, "NeighboursOf", list, wanted...)
	}
	alone, _ := impl.PlainField(1, 1, 0)
	list, code := impl.NeighboursOf(alone, 0)
	wantCode(t, "NeighboursOf the only cell", code, impl.OK)
	wantList(t, "NeighboursOf the only cell", list)
	wood := fieldOf(t, "t h", "p 0")
	list, code = impl.NeighboursOf(wood, 11)
	wantCode(t, "NeighboursOf of all kinds", code, impl.OK)
	wantList(t, "NeighboursOf of all kinds", list, 1, 10)
}

func TestNeighboursAreCellsBeside(t *testing.T) {
	for _, f := range someFields() {
		for _, n := range append(farNumbers, 20, 33, 47, 58, 89, 98) {
			list, code := impl.NeighboursOf(f, n)
			if !isCell(f, n) {
				wantCode(t, "NeighboursOf no cell", code, impl.ErrRange)
				wantList(t, "NeighboursOf no cell", list)
				continue
			}
			var wanted []int64
			if isCell(f, n-10) {
				wanted = append(wanted, n-10)
			}
			if n%10 > 0 {
				wanted = append(wanted, n-1)
			}
			if n%10 < int64(f.Wide)-1 {
				wanted = append(wanted, n+1)
			}
			if isCell(f, n+10) {
				wanted = append(wanted, n+10)
			}
			wantCode(t, "NeighboursOf", code, impl.OK)
			wantList(t, "NeighboursOf", list, wanted...)
		}
	}
}
