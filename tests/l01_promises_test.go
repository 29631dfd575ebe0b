package tests

import (
	"math"
	"reflect"
	"slices"
	"testing"

	"loop.example/g01338/impl"
)

// fieldCall calls a function that has a field as its first argument and a code as its last result.
type fieldCall struct {
	name string
	run  func(f impl.Field, a, b int64, c impl.Cells) []any
}

func all(results ...any) []any { return results }

func fieldCalls() []fieldCall {
	return []fieldCall{
		{"KindAt", func(f impl.Field, a, b int64, c impl.Cells) []any { x, e := impl.KindAt(f, a); return all(x, e) }},
		{"SeedsAt", func(f impl.Field, a, b int64, c impl.Cells) []any { x, e := impl.SeedsAt(f, a); return all(x, e) }},
		{"WithKind", func(f impl.Field, a, b int64, c impl.Cells) []any { x, e := impl.WithKind(f, a, b); return all(x, e) }},
		{"SowCell", func(f impl.Field, a, b int64, c impl.Cells) []any { x, e := impl.SowCell(f, a, b); return all(x, e) }},
		{"TakeSeeds", func(f impl.Field, a, b int64, c impl.Cells) []any {
			x, y, e := impl.TakeSeeds(f, a, b)
			return all(x, y, e)
		}},
		{"SeedsIn", func(f impl.Field, a, b int64, c impl.Cells) []any { x, e := impl.SeedsIn(f); return all(x, e) }},
		{"CellsOfKind", func(f impl.Field, a, b int64, c impl.Cells) []any { x, e := impl.CellsOfKind(f, a); return all(x, e) }},
		{"SquareOf", func(f impl.Field, a, b int64, c impl.Cells) []any { x, e := impl.SquareOf(f, a, b); return all(x, e) }},
		{"RingOf", func(f impl.Field, a, b int64, c impl.Cells) []any { x, e := impl.RingOf(f, a, b); return all(x, e) }},
		{"NearestIn", func(f impl.Field, a, b int64, c impl.Cells) []any {
			x, y, e := impl.NearestIn(f, a, c)
			return all(x, y, e)
		}},
		{"RichestIn", func(f impl.Field, a, b int64, c impl.Cells) []any {
			x, y, e := impl.RichestIn(f, c)
			return all(x, y, e)
		}},
		{"NeighboursOf", func(f impl.Field, a, b int64, c impl.Cells) []any {
			x, e := impl.NeighboursOf(f, a)
			return all(x, e)
		}},
		{"MirrorField", func(f impl.Field, a, b int64, c impl.Cells) []any { x, e := impl.MirrorField(f); return all(x, e) }},
		{"TurnField", func(f impl.Field, a, b int64, c impl.Cells) []any { x, e := impl.TurnField(f); return all(x, e) }},
	}
}

// isNothing tells whether a result is a zero value, an empty slice among them.
func isNothing(result any) bool {
	v := reflect.ValueOf(result)
	return v.IsZero() || v.Kind() == reflect.Slice && v.Len() == 0
}

// P1: functions return for all arguments, with equal results for equal ones, and with zero values beside an error.
func TestP1CallsReturn(t *testing.T) {
	fields := []impl.Field{someFields()[0], someFields()[37], someFields()[99]}
	for _, f := range brokenFields() {
		fields = append(fields, f)
	}
	sets := []impl.Cells{{}, strayBits(), setOf(0, 11, 99, 127), {math.MaxUint64, math.MaxUint64}}
	for _, call := range fieldCalls() {
		for _, f := range fields {
			for i, a := range farNumbers {
				for j, b := range farNumbers {
					set := sets[(i+j)%len(sets)]
					checkTwice(t, call.name, [2]int64{a, b}, func() []any { return call.run(f, a, b, set) })
				}
			}
		}
	}
}

// P1, Validity: ErrInvalid comes before all other errors, and a field is refused in whatever way it is not valid.
func TestP1InvalidFieldsAreRefused(t *testing.T) {
	for name, f := range brokenFields() {
		for _, call := range fieldCalls() {
			for _, n := range []int64{0, 1, -1, 100, 1001, math.MinInt64} {
				results := call.run(f, n, n, impl.Cells{})
				want(t, call.name+" with "+name, results[len(results)-1], any(int64(impl.ErrInvalid)))
			}
		}
	}
}

// P1, Errors: a cell or a number out of range is found before the set is looked at.
func TestP1RangeBeforeNotFound(t *testing.T) {
	f := fieldOf(t, "0 0")
	_, _, code := impl.NearestIn(f, 2, impl.Cells{})
	wantCode(t, "NearestIn no cell, nothing", code, impl.ErrRange)
	_, _, code = impl.NearestIn(f, 1, impl.Cells{})
	wantCode(t, "NearestIn nothing", code, impl.ErrNotFound)
}

// P1: functions without a field return for all arguments, too.
func TestP1OtherCallsReturn(t *testing.T) {
	for _, n := range farNumbers {
		want(t, "CodeName", impl.CodeName(n), impl.CodeName(n))
		for _, c := range someSets() {
			want(t, "HasCell", impl.HasCell(c, n), isIn(c, n))
		}
	}
	long := make([]int64, 1000000)
	set, code := impl.CellsOf(long)
	wantCode(t, "CellsOf a long list", code, impl.OK)
	want(t, "CellsOf a long list", set, setOf(0))
	long[len(long)-1] = 100
	_, code = impl.CellsOf(long)
	wantCode(t, "CellsOf a long list", code, impl.ErrRange)
}

// P1, Purity: no argument is modified, nor the unused capacity of a slice.
func TestP1ArgumentsStay(t *testing.T) {
	for _, last := range []int64{64, 100} {
		backing := []int64{99, 3, last, -7, 5, 1}
		before := slices.Clone(backing)
		impl.CellsOf(backing[:3])
		want(t, "the list of CellsOf", backing, before)
	}
}

// P1, Purity: lists that are returned share no memory.
func TestP1ListsAreNew(t *testing.T) {
	f := fieldOf(t, "0 0 0", "0 0 0", "0 0 0")
	set := setOf(1, 10, 12, 21)
	first, second := impl.ListOf(set), impl.ListOf(set)
	wear(first)
	wantList(t, "ListOf", second, 1, 10, 12, 21)
	wantList(t, "ListOf again", impl.ListOf(set), 1, 10, 12, 21)
	one, _ := impl.NeighboursOf(f, 11)
	two, _ := impl.NeighboursOf(f, 11)
	wear(one)
	wantList(t, "NeighboursOf", two, 1, 10, 12, 21)
	three, _ := impl.NeighboursOf(f, 11)
	wantList(t, "NeighboursOf again", three, 1, 10, 12, 21)
}

// wear overwrites a list and its unused capacity.
func wear(list []int64) {
	list = list[:cap(list)]
	for i := range list {
		list[i] = -1
	}
}

// P2: seeds that are taken are no longer there.
func TestP2SeedsThatAreTakenAreGone(t *testing.T) {
	for _, f := range someFields() {
		for cell := range int64(100) {
			for _, most := range []int64{0, 1, 6, 7, 8, 998, 999, 1000, 1001, math.MaxInt64} {
				if isCell(f, cell) {
					checkTaking(t, f, cell, most)
				}
			}
		}
	}
}

func checkTaking(t *testing.T, f impl.Field, cell, most int64) {
	t.Helper()
	g, taken, code := impl.TakeSeeds(f, cell, most)
	wantCode(t, "TakeSeeds", code, impl.OK)
	want(t, "taken", taken, min(most, int64(f.Seeds[cell])))
	wanted := f
	wanted.Seeds[cell] -= int16(taken)
	want(t, "the field behind TakeSeeds", g, wanted)
	want(t, "the field behind TakeSeeds is valid", impl.ValidField(g), true)
	before, _ := impl.SeedsIn(f)
	after, _ := impl.SeedsIn(g)
	want(t, "all seeds behind TakeSeeds", after, before-taken)
	if most >= int64(f.Seeds[cell]) {
		_, again, code := impl.TakeSeeds(g, cell, most)
		want(t, "nothing is taken twice", [2]int64{again, code}, [2]int64{0, impl.OK})
	}
}

// P2: what has been sown can be taken, and then the field is as it was.
func TestP2SeedsThatAreSownAreThere(t *testing.T) {
	for _, f := range someFields() {
		for cell := range int64(100) {
			if !isCell(f, cell) || f.Kinds[cell] != impl.KiSoil {
				continue
			}
			room := impl.MaxSeeds - int64(f.Seeds[cell])
			sown, code := impl.SowCell(f, cell, room)
			wantCode(t, "SowCell", code, impl.OK)
			seeds, _ := impl.SeedsAt(sown, cell)
			want(t, "seeds behind SowCell", seeds, impl.MaxSeeds)
			back, taken, code := impl.TakeSeeds(sown, cell, room)
			wantCode(t, "TakeSeeds", code, impl.OK)
			want(t, "taken", taken, room)
			want(t, "the field as it was", back, f)
			_, code = impl.SowCell(f, cell, room+1)
			wantRefused(t, room+1, code)
		}
	}
}

// wantRefused expects the error of sowing one more than there is room for.
func wantRefused(t *testing.T, seeds, code int64) {
	t.Helper()
	if seeds > impl.MaxSeeds {
		wantCode(t, "SowCell", code, impl.ErrRange)
	} else {
		wantCode(t, "SowCell", code, impl.ErrLimit)
	}
}

// P3: the nearest cell of a set is in it, and none is nearer.
func TestP3NoneIsNearer(t *testing.T) {
	for _, f := range someFields() {
		for _, set := range someSets() {
			for cell := range int64(100) {
				if isCell(f, cell) {
					checkNearest(t, f, cell, set)
				}
			}
		}
	}
}

func checkNearest(t *testing.T, f impl.Field, cell int64, set impl.Cells) {
	t.Helper()
	best, least := int64(-1), int64(math.MaxInt64)
	for n := range int64(100) {
		x, y := n%10-cell%10, n/10-cell/10
		if isCell(f, n) && isIn(set, n) && x*x+y*y < least {
			best, least = n, x*x+y*y
		}
	}
	near, square, code := impl.NearestIn(f, cell, set)
	if best < 0 {
		want(t, "NearestIn nothing", [3]int64{near, square, code}, [3]int64{0, 0, impl.ErrNotFound})
		return
	}
	want(t, "NearestIn", [3]int64{near, square, code}, [3]int64{best, least, impl.OK})
}

func TestP3NearestOfSeveral(t *testing.T) {
	f := fieldOf(t, "0 h 0 0", "t 0 0 p", "0 0 0 0")
	cases := []struct {
		name         string
		cell         int64
		set          impl.Cells
		near, square int64
		code         int64
	}{
		{"the cell itself", 11, setOf(1, 10, 11, 12), 11, 0, impl.OK},
		{"the least number of four", 11, setOf(21, 12, 10, 1), 1, 1, impl.OK},
		{"the least number of two", 11, setOf(21, 12), 12, 1, impl.OK},
		{"a greater number that is nearer", 11, setOf(0, 12), 12, 1, impl.OK},
		{"across", 0, setOf(23, 13), 13, 10, impl.OK},
		{"a number that is no cell is nearer", 3, setOf(4, 0), 0, 9, impl.OK},
		{"a number south of the field is nearer", 20, setOf(30, 23), 23, 9, impl.OK},
		{"stray bits, too", 0, withStrays(setOf(23)), 23, 13, impl.OK},
		{"only stray bits", 0, strayBits(), 0, 0, impl.ErrNotFound},
		{"only numbers that are no cells", 0, setOf(4, 9, 30, 99), 0, 0, impl.ErrNotFound},
		{"nothing", 0, setOf(), 0, 0, impl.ErrNotFound},
		{"no cell", 4, setOf(0), 0, 0, impl.ErrRange},
		{"a number less than 0", -1, setOf(0), 0, 0, impl.ErrRange},
		{"a number greater than 99", 100, setOf(0), 0, 0, impl.ErrRange},
	}
	for _, c := range cases {
		near, square, code := impl.NearestIn(f, c.cell, c.set)
		want(t, c.name, [3]int64{near, square, code}, [3]int64{c.near, c.square, c.code})
	}
}
