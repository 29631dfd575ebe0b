package tests

import (
	"math"
	"math/rand/v2"
	"reflect"
	"strings"
	"testing"

	"loop.example/g01338/impl"
)

// farNumbers lie at and beyond all limits of cells, kinds, seeds, sides and squares.
var farNumbers = []int64{
	math.MinInt64, math.MinInt64 + 1, math.MinInt32, -65536, -256, -100, -11, -10, -9, -1,
	0, 1, 2, 3, 4, 9, 10, 11, 12, 19, 63, 64, 90, 99, 100, 101, 109, 110, 127, 128, 162, 199, 200, 201,
	255, 256, 257, 999, 1000, 1001, 32767, 32768, 65536, 65537, math.MaxInt32, 1 << 32, math.MaxInt64 - 1, math.MaxInt64,
}

// fieldOf reads a field from its rows.
func fieldOf(t *testing.T, rows ...string) impl.Field {
	t.Helper()
	f, code := impl.ReadField(strings.Join(rows, "\n") + "\n")
	wantCode(t, "ReadField", code, impl.OK)
	return f
}

// setOf makes a set bit by bit; numbers up to 127 are allowed.
func setOf(numbers ...int) impl.Cells {
	var c impl.Cells
	for _, n := range numbers {
		c[n/64] |= 1 << (n % 64)
	}
	return c
}

// strayBits are the bits of all numbers greater than 99.
func strayBits() impl.Cells {
	var c impl.Cells
	for n := 100; n < 128; n++ {
		c[1] |= 1 << (n - 64)
	}
	return c
}

func withStrays(c impl.Cells) impl.Cells {
	s := strayBits()
	return impl.Cells{c[0] | s[0], c[1] | s[1]}
}

// isIn tells, without the package, whether a number is in a set.
func isIn(c impl.Cells, n int64) bool {
	return n >= 0 && n < 100 && c[n/64]&(1<<uint(n%64)) != 0
}

// isCell tells, without the package, whether a number is a cell.
func isCell(f impl.Field, n int64) bool {
	return n >= 0 && n%10 < int64(f.Wide) && n/10 < int64(f.High)
}

func wantCode(t *testing.T, name string, got, want int64) {
	t.Helper()
	if got != want {
		t.Errorf("%s: code %d, want %d", name, got, want)
	}
}

func want[T any](t *testing.T, name string, got, wanted T) {
	t.Helper()
	if !reflect.DeepEqual(got, wanted) {
		t.Errorf("%s: got %v, want %v", name, got, wanted)
	}
}

// wantList takes nil and empty lists for equal ones.
func wantList(t *testing.T, name string, got []int64, wanted ...int64) {
	t.Helper()
	if len(got) != len(wanted) || len(got) > 0 && !reflect.DeepEqual(got, wanted) {
		t.Errorf("%s: got %v, want %v", name, got, wanted)
	}
}

// someFields returns valid fields of all sizes; few different numbers of seeds make many ties.
func someFields() []impl.Field {
	r := rand.New(rand.NewPCG(1, 2))
	var list []impl.Field
	for wide := int8(1); wide <= 10; wide++ {
		for high := int8(1); high <= 10; high++ {
			list = append(list, someField(r, wide, high))
		}
	}
	return list
}

func someField(r *rand.Rand, wide, high int8) impl.Field {
	f := impl.Field{Wide: wide, High: high}
	for y := range high {
		for x := range wide {
			cell := int(x) + 10*int(y)
			if r.IntN(3) == 0 {
				f.Kinds[cell] = uint8(1 + r.IntN(3))
			} else {
				f.Seeds[cell] = []int16{0, 1, 7, 999, 1000}[r.IntN(5)]
			}
		}
	}
	return f
}

// someSets returns sets with few and with many numbers, with and without stray bits.
func someSets() []impl.Cells {
	r := rand.New(rand.NewPCG(3, 4))
	list := []impl.Cells{
		{}, strayBits(), {math.MaxUint64, math.MaxUint64}, setOf(0), setOf(63), setOf(64), setOf(99),
		setOf(100), setOf(127), setOf(99, 100), setOf(1, 10), setOf(2, 11, 20), setOf(44, 55),
	}
	for range 6 {
		list = append(list, impl.Cells{r.Uint64(), r.Uint64()})
		list = append(list, setOf(r.IntN(128), r.IntN(128), r.IntN(128)))
	}
	return list
}

// brokenFields returns fields that are not valid, each in one way.
func brokenFields() map[string]impl.Field {
	plain := impl.Field{Wide: 3, High: 2}
	broken := map[string]impl.Field{"zero": {}}
	breakIt := func(name string, how func(f *impl.Field)) {
		f := plain
		how(&f)
		broken[name] = f
	}
	breakIt("wide 0", func(f *impl.Field) { f.Wide = 0 })
	breakIt("high 0", func(f *impl.Field) { f.High = 0 })
	breakIt("wide -1", func(f *impl.Field) { f.Wide = -1 })
	breakIt("high -1", func(f *impl.Field) { f.High = -1 })
	breakIt("wide 11", func(f *impl.Field) { f.Wide = 11 })
	breakIt("high 11", func(f *impl.Field) { f.High = 11 })
	breakIt("wide 127", func(f *impl.Field) { f.Wide = 127 })
	breakIt("high 127", func(f *impl.Field) { f.High = 127 })
	breakIt("wide -128", func(f *impl.Field) { f.Wide = -128 })
	breakIt("high -128", func(f *impl.Field) { f.High = -128 })
	breakIt("kind 4", func(f *impl.Field) { f.Kinds[12] = 4 })
	breakIt("kind 255", func(f *impl.Field) { f.Kinds[0] = 255 })
	breakIt("seeds -1", func(f *impl.Field) { f.Seeds[0] = -1 })
	breakIt("seeds -32768", func(f *impl.Field) { f.Seeds[12] = -32768 })
	breakIt("seeds 1001", func(f *impl.Field) { f.Seeds[12] = 1001 })
	breakIt("hedge with seeds", func(f *impl.Field) { f.Kinds[1], f.Seeds[1] = impl.KiHedge, 1 })
	breakIt("path with seeds", func(f *impl.Field) { f.Kinds[1], f.Seeds[1] = impl.KiPath, 1 })
	breakIt("tree with seeds", func(f *impl.Field) { f.Kinds[1], f.Seeds[1] = impl.KiTree, 1 })
	breakIt("tree with -1 seeds", func(f *impl.Field) { f.Kinds[1], f.Seeds[1] = impl.KiTree, -1 })
	for name, n := range map[string]int{"east": 3, "south": 20, "last": 99} {
		breakIt("kind "+name+" of the field", func(f *impl.Field) { f.Kinds[n] = impl.KiHedge })
		breakIt("seeds "+name+" of the field", func(f *impl.Field) { f.Seeds[n] = 1 })
		breakIt("negative seeds "+name+" of the field", func(f *impl.Field) { f.Seeds[n] = -1 })
	}
	return broken
}

// checkTwice makes a call with a code as its last result twice: results are equal, and zero values beside an error.
func checkTwice(t *testing.T, name string, args any, run func() []any) {
	t.Helper()
	first, second := run(), run()
	if !reflect.DeepEqual(first, second) {
		t.Fatalf("%s %v: once %v, and then %v", name, args, first, second)
	}
	last := len(first) - 1
	if code := first[last]; code == int64(impl.OK) {
		return
	}
	for _, result := range first[:last] {
		if !isNothing(result) {
			t.Fatalf("%s %v: %v beside the code %v", name, args, result, first[last])
		}
	}
}
