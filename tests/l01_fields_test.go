package tests

import (
	"testing"

	"loop.example/g01338/impl"
)

func TestCodeNames(t *testing.T) {
	names := []string{"ok", "invalid", "range", "limit", "state", "syntax", "notfound", "budget", "proof"}
	codes := []int64{impl.OK, impl.ErrInvalid, impl.ErrRange, impl.ErrLimit, impl.ErrState, impl.ErrSyntax, impl.ErrNotFound, impl.ErrBudget, impl.ErrProof}
	for i, name := range names {
		want(t, "the code of "+name, codes[i], int64(i))
		want(t, "CodeName", impl.CodeName(int64(i)), name)
	}
	for _, n := range farNumbers {
		if n < 0 || n > 8 {
			want(t, "CodeName of no code", impl.CodeName(n), "")
		}
	}
}

func TestConstants(t *testing.T) {
	want(t, "Stride and MaxSeeds", [2]int64{impl.Stride, impl.MaxSeeds}, [2]int64{10, 1000})
	want(t, "kinds", [4]int64{impl.KiSoil, impl.KiHedge, impl.KiPath, impl.KiTree}, [4]int64{0, 1, 2, 3})
}

func TestExampleOfChapter1(t *testing.T) {
	f := fieldOf(t, "3 h 5", "t 2 0")
	sum, code := impl.SeedsIn(f)
	wantCode(t, "SeedsIn", code, impl.OK)
	want(t, "SeedsIn", sum, 10)
	kind, code := impl.KindAt(f, 10)
	wantCode(t, "KindAt", code, impl.OK)
	want(t, "KindAt", kind, impl.KiTree)
	square, code := impl.SquareOf(f, 0, 12)
	wantCode(t, "SquareOf", code, impl.OK)
	want(t, "SquareOf", square, 5)
	ring, code := impl.RingOf(f, 0, 1)
	wantCode(t, "RingOf", code, impl.OK)
	want(t, "RingOf", ring, setOf(0, 1, 10))
	soil, code := impl.CellsOfKind(f, impl.KiSoil)
	wantCode(t, "CellsOfKind", code, impl.OK)
	want(t, "CellsOfKind", soil, setOf(0, 2, 11, 12))
	near, by, code := impl.NearestIn(f, 10, soil)
	wantCode(t, "NearestIn", code, impl.OK)
	want(t, "NearestIn", [2]int64{near, by}, [2]int64{0, 1})
	eleven, code := impl.SquareOf(f, 10, 11)
	wantCode(t, "SquareOf", code, impl.OK)
	want(t, "the cell 11 is as near", eleven, by)
	rich, seeds, code := impl.RichestIn(f, soil)
	wantCode(t, "RichestIn", code, impl.OK)
	want(t, "RichestIn", [2]int64{rich, seeds}, [2]int64{2, 5})
	turned, code := impl.TurnField(f)
	wantCode(t, "TurnField", code, impl.OK)
	want(t, "TurnField", impl.FieldText(turned), "t 3\n2 h\n0 5\n")
}

func TestValidField(t *testing.T) {
	for name, f := range brokenFields() {
		if impl.ValidField(f) {
			t.Errorf("%s: the field is taken for valid", name)
		}
	}
	for _, f := range someFields() {
		if !impl.ValidField(f) {
			t.Errorf("%v: the field is taken for invalid", f)
		}
	}
	full := impl.Field{Wide: 10, High: 10}
	for n := range full.Seeds {
		full.Seeds[n] = impl.MaxSeeds
	}
	want(t, "a field full of seeds", impl.ValidField(full), true)
	want(t, "a field of 1 by 1", impl.ValidField(impl.Field{Wide: 1, High: 1}), true)
}

func TestSameField(t *testing.T) {
	base := fieldOf(t, "3 h 5", "t 2 0")
	want(t, "a field and itself", impl.SameField(base, base), true)
	for name, f := range brokenFields() {
		want(t, name+" and itself", impl.SameField(f, f), true)
		want(t, name+" and a valid one", impl.SameField(f, base), false)
	}
	others := make([]impl.Field, 4)
	for i := range others {
		others[i] = base
	}
	others[0].Wide++
	others[1].High--
	others[2].Kinds[99] = 1
	others[3].Seeds[99] = 1
	for i, other := range others {
		if impl.SameField(base, other) || impl.SameField(other, base) {
			t.Errorf("other field %d: taken for the same", i)
		}
	}
}

func TestPlainField(t *testing.T) {
	f, code := impl.PlainField(2, 1, 4)
	wantCode(t, "PlainField", code, impl.OK)
	want(t, "PlainField", impl.FieldText(f), "4 4\n")
	for _, wide := range farNumbers {
		for _, high := range farNumbers {
			for _, seeds := range []int64{-1 << 63, -65536, -1, 0, 4, 1000, 1001, 65536, 1<<63 - 1} {
				checkPlain(t, wide, high, seeds)
			}
		}
	}
}

func checkPlain(t *testing.T, wide, high, seeds int64) {
	t.Helper()
	f, code := impl.PlainField(wide, high, seeds)
	if wide < 1 || wide > 10 || high < 1 || high > 10 || seeds < 0 || seeds > 1000 {
		wantCode(t, "PlainField", code, impl.ErrRange)
		want(t, "PlainField with an error", f, impl.Field{})
		return
	}
	wantCode(t, "PlainField", code, impl.OK)
	wanted := impl.Field{Wide: int8(wide), High: int8(high)}
	for n := range int64(100) {
		if isCell(wanted, n) {
			wanted.Seeds[n] = int16(seeds)
		}
	}
	want(t, "PlainField", f, wanted)
}

func TestKindsAndSeedsOfCells(t *testing.T) {
	for _, f := range someFields() {
		for _, n := range append(farNumbers, int64(f.Wide)-1, int64(f.Wide), 10*int64(f.High)-10, 10*int64(f.High)) {
			kind, kindCode := impl.KindAt(f, n)
			seeds, seedsCode := impl.SeedsAt(f, n)
			if !isCell(f, n) {
				want(t, "no cell", [4]int64{kind, kindCode, seeds, seedsCode}, [4]int64{0, impl.ErrRange, 0, impl.ErrRange})
				continue
			}
			want(t, "a cell", [4]int64{kind, kindCode, seeds, seedsCode}, [4]int64{int64(f.Kinds[n]), impl.OK, int64(f.Seeds[n]), impl.OK})
		}
	}
}

func TestWithKind(t *testing.T) {
	f := fieldOf(t, "3 h 5", "t 2 0")
	steps := []struct {
		cell, kind int64
		text       string
	}{
		{0, impl.KiSoil, "3 h 5\nt 2 0\n"},
		{0, impl.KiHedge, "h h 5\nt 2 0\n"},
		{2, impl.KiPath, "3 h p\nt 2 0\n"},
		{11, impl.KiTree, "3 h 5\nt t 0\n"},
		{1, impl.KiSoil, "3 0 5\nt 2 0\n"},
		{10, impl.KiPath, "3 h 5\np 2 0\n"},
		{10, impl.KiTree, "3 h 5\nt 2 0\n"},
	}
	for _, step := range steps {
		g, code := impl.WithKind(f, step.cell, step.kind)
		wantCode(t, "WithKind", code, impl.OK)
		want(t, "WithKind", impl.FieldText(g), step.text)
	}
	for _, n := range farNumbers {
		if n < 0 || n > 3 {
			g, code := impl.WithKind(f, 0, n)
			wantCode(t, "no kind", code, impl.ErrRange)
			want(t, "no kind", g, impl.Field{})
		}
		if !isCell(f, n) {
			g, code := impl.WithKind(f, n, 0)
			wantCode(t, "WithKind of no cell", code, impl.ErrRange)
			want(t, "WithKind of no cell", g, impl.Field{})
		}
	}
}

func TestSowCell(t *testing.T) {
	f := fieldOf(t, "3 h 5", "t 2 1000", "p 999 0")
	cases := []struct {
		name        string
		cell, seeds int64
		code        int64
		row         string
	}{
		{"one", 0, 1, impl.OK, "4 h 5\nt 2 1000\np 999 0\n"},
		{"none", 0, 0, impl.OK, "3 h 5\nt 2 1000\np 999 0\n"},
		{"up to the limit", 0, 997, impl.OK, "1000 h 5\nt 2 1000\np 999 0\n"},
		{"over the limit", 0, 998, impl.ErrLimit, ""},
		{"none in a full cell", 12, 0, impl.OK, "3 h 5\nt 2 1000\np 999 0\n"},
		{"one in a full cell", 12, 1, impl.ErrLimit, ""},
		{"all in a full cell", 12, 1000, impl.ErrLimit, ""},
		{"the last one", 21, 1, impl.OK, "3 h 5\nt 2 1000\np 1000 0\n"},
		{"one too many", 21, 2, impl.ErrLimit, ""},
		{"all in an empty cell", 22, 1000, impl.OK, "3 h 5\nt 2 1000\np 999 1000\n"},
		{"too many in an empty cell", 22, 1001, impl.ErrRange, ""},
		{"less than none", 22, -1, impl.ErrRange, ""},
		{"far less than none", 0, -65536, impl.ErrRange, ""},
		{"far too many", 0, 65536, impl.ErrRange, ""},
		{"a hedge", 1, 1, impl.ErrState, ""},
		{"a tree", 10, 1000, impl.ErrState, ""},
		{"a path", 20, 0, impl.ErrState, ""},
		{"ErrRange before ErrState", 1, 1001, impl.ErrRange, ""},
		{"ErrRange before ErrState, below", 1, -1, impl.ErrRange, ""},
		{"ErrRange before ErrLimit", 12, 1001, impl.ErrRange, ""},
		{"no cell", 3, 1, impl.ErrRange, ""},
		{"no cell, less than 0", -1, 1, impl.ErrRange, ""},
		{"no cell, south", 30, 1, impl.ErrRange, ""},
	}
	for _, c := range cases {
		g, code := impl.SowCell(f, c.cell, c.seeds)
		wantCode(t, c.name, code, c.code)
		want(t, c.name, impl.FieldText(g), c.row)
		if code != impl.OK {
			want(t, c.name, g, impl.Field{})
		}
	}
}

func TestTakeSeeds(t *testing.T) {
	f := fieldOf(t, "3 h 1000", "t p 0")
	cases := []struct {
		name       string
		cell, most int64
		taken      int64
		code       int64
		text       string
	}{
		{"some", 0, 2, 2, impl.OK, "1 h 1000\nt p 0\n"},
		{"none", 0, 0, 0, impl.OK, "3 h 1000\nt p 0\n"},
		{"all", 0, 3, 3, impl.OK, "0 h 1000\nt p 0\n"},
		{"more than all", 0, 4, 3, impl.OK, "0 h 1000\nt p 0\n"},
		{"MaxSeeds", 2, 1000, 1000, impl.OK, "3 h 0\nt p 0\n"},
		{"as many as 2 to the 16", 2, 65536, 1000, impl.OK, "3 h 0\nt p 0\n"},
		{"as many as can be told", 2, 1<<63 - 1, 1000, impl.OK, "3 h 0\nt p 0\n"},
		{"of an empty cell", 12, 5, 0, impl.OK, "3 h 1000\nt p 0\n"},
		{"of a hedge", 1, 5, 0, impl.OK, "3 h 1000\nt p 0\n"},
		{"of a tree", 10, 5, 0, impl.OK, "3 h 1000\nt p 0\n"},
		{"of a path", 11, 5, 0, impl.OK, "3 h 1000\nt p 0\n"},
		{"less than none", 0, -1, 0, impl.ErrRange, ""},
		{"far less than none", 0, -1 << 63, 0, impl.ErrRange, ""},
		{"less than none of a hedge", 1, -1, 0, impl.ErrRange, ""},
		{"of no cell", 3, 1, 0, impl.ErrRange, ""},
		{"of no cell, south", 20, 0, 0, impl.ErrRange, ""},
		{"of no cell, less than 0", -1, 1, 0, impl.ErrRange, ""},
		{"of no cell, more than 99", 100, 1, 0, impl.ErrRange, ""},
	}
	for _, c := range cases {
		g, taken, code := impl.TakeSeeds(f, c.cell, c.most)
		wantCode(t, c.name, code, c.code)
		want(t, c.name, taken, c.taken)
		want(t, c.name, impl.FieldText(g), c.text)
		if code != impl.OK {
			want(t, c.name, g, impl.Field{})
		}
	}
}

func TestSeedsIn(t *testing.T) {
	full, _ := impl.PlainField(10, 10, 1000)
	sum, code := impl.SeedsIn(full)
	wantCode(t, "SeedsIn", code, impl.OK)
	want(t, "all seeds that there can be", sum, 100000)
	for _, f := range someFields() {
		wanted := int64(0)
		for _, seeds := range f.Seeds {
			wanted += int64(seeds)
		}
		sum, code := impl.SeedsIn(f)
		wantCode(t, "SeedsIn", code, impl.OK)
		want(t, "SeedsIn", sum, wanted)
	}
}

func TestCellsOfKind(t *testing.T) {
	for _, f := range someFields() {
		for _, kind := range farNumbers {
			set, code := impl.CellsOfKind(f, kind)
			if kind < 0 || kind > 3 {
				wantCode(t, "no kind", code, impl.ErrRange)
				want(t, "no kind", set, impl.Cells{})
				continue
			}
			var wanted []int
			for n := range 100 {
				if isCell(f, int64(n)) && int64(f.Kinds[n]) == kind {
					wanted = append(wanted, n)
				}
			}
			wantCode(t, "CellsOfKind", code, impl.OK)
			want(t, "CellsOfKind", set, setOf(wanted...))
		}
	}
}
