package tests

import (
	"math"
	"testing"

	"loop.example/g01338/impl"
)

func TestValidOwners(t *testing.T) {
	f := lossBefore(t)
	want(t, "owners", impl.ValidOwners(f, goodOwners()), true)
	want(t, "owners of the field after", impl.ValidOwners(lossAfter(t), goodOwners()), true)
	for owner := range int64(10) {
		want(t, "one owner", impl.ValidOwners(f, ownersOf(f, func(int64) int64 { return owner })), true)
	}
	for name, o := range brokenOwners() {
		want(t, name, impl.ValidOwners(f, o), false)
	}
	for name, broken := range brokenFields() {
		for _, wide := range []int8{3, broken.Wide} {
			o := ownersOf(impl.Field{Wide: wide, High: 2}, func(int64) int64 { return 0 })
			want(t, "a field with "+name, impl.ValidOwners(broken, o), false)
		}
		want(t, "no owners, and a field with "+name, impl.ValidOwners(broken, ownersAt(nil)), false)
		want(t, "zero owners, and a field with "+name, impl.ValidOwners(broken, impl.Owners{}), false)
	}
	want(t, "all numbers are cells", impl.ValidOwners(plainField(t, 10, 10), impl.Owners{}), true)
	want(t, "all but a row are cells", impl.ValidOwners(plainField(t, 10, 9), impl.Owners{}), false)
	want(t, "one cell", impl.ValidOwners(plainField(t, 1, 1), rowOwners(9)), true)
	want(t, "no cells", impl.ValidOwners(impl.Field{}, ownersAt(nil)), false)
}

func TestValidOwnersIsAsTold(t *testing.T) {
	for _, f := range someFields() {
		o := ownersOf(f, func(n int64) int64 { return n % 7 })
		want(t, "owners", impl.ValidOwners(f, o), true)
		for n := range o {
			for _, owner := range []int8{-128, -2, -1, 0, 1, 9, 10, 127} {
				other := o
				other[n] = owner
				isFine := owner == -1
				if isCell(f, int64(n)) {
					isFine = owner >= 0 && owner <= 9
				}
				want(t, "another owner", impl.ValidOwners(f, other), isFine)
			}
		}
	}
}

func TestPatchesOf(t *testing.T) {
	f, o := lossBefore(t), goodOwners()
	for owner, patches := range map[int64]impl.Cells{
		0: setOf(0, 1, 11, 21), 1: setOf(2, 12), 2: setOf(10, 20), 3: setOf(22, 23), 4: setOf(), 5: setOf(), 8: setOf(), 9: setOf(3, 13),
	} {
		got, code := impl.PatchesOf(f, o, owner)
		wantCode(t, "PatchesOf", code, impl.OK)
		want(t, "PatchesOf", got, patches)
	}
	for _, owner := range farNumbers {
		got, code := impl.PatchesOf(f, o, owner)
		if owner < 0 || owner > 9 {
			wantCode(t, "PatchesOf no owner", code, impl.ErrRange)
			want(t, "PatchesOf no owner", got, impl.Cells{})
		} else {
			wantCode(t, "PatchesOf an owner", code, impl.OK)
		}
		_, code = impl.PatchesOf(f, impl.Owners{}, owner)
		wantCode(t, "PatchesOf with owners that are not valid", code, impl.ErrInvalid)
	}
	for _, s := range someLossScenes() {
		for owner := range int64(10) {
			patches, code := impl.PatchesOf(s.before, s.o, owner)
			wantCode(t, "PatchesOf", code, impl.OK)
			for n := range int64(100) {
				want(t, "a cell of an owner", isIn(patches, n), int64(s.o[n]) == owner)
			}
			want(t, "bits greater than 99", patches[1]&strayBits()[1], 0)
		}
	}
}

func TestLossByOwner(t *testing.T) {
	before, after := lossBefore(t), lossAfter(t)
	for name, c := range map[string]struct {
		after  impl.Field
		o      impl.Owners
		losses []int64
	}{
		"several owners":        {after, goodOwners(), []int64{2, 0, 4, 12, 0, 0, 0, 0, 0, 9}},
		"all of the first one":  {after, ownersOf(before, func(int64) int64 { return 0 }), []int64{27, 0, 0, 0, 0, 0, 0, 0, 0, 0}},
		"all of the last one":   {after, ownersOf(before, func(int64) int64 { return 9 }), []int64{0, 0, 0, 0, 0, 0, 0, 0, 0, 27}},
		"an owner for each row": {after, ownersOf(before, func(n int64) int64 { return n/10 + 4 }), []int64{0, 0, 0, 0, 11, 0, 16, 0, 0, 0}},
		"no losses":             {before, goodOwners(), make([]int64, 10)},
	} {
		losses, code := impl.LossByOwner(before, c.after, c.o)
		wantCode(t, name, code, impl.OK)
		wantList(t, name, losses, c.losses...)
	}
	full, _ := impl.PlainField(10, 10, 1000)
	bare, _ := impl.PlainField(10, 10, 0)
	losses, code := impl.LossByOwner(full, bare, impl.Owners{})
	wantCode(t, "the greatest loss", code, impl.OK)
	wantList(t, "the greatest loss", losses, 100000, 0, 0, 0, 0, 0, 0, 0, 0, 0)
	for _, s := range someLossScenes() {
		losses, code := impl.LossByOwner(s.before, s.after, s.o)
		wantCode(t, "LossByOwner", code, impl.OK)
		wantList(t, "LossByOwner", losses, lossesByOwnerIn(s)...)
	}
}

// ownedField reads a field and its owners.
func ownedField(t *testing.T, text string) (impl.Field, impl.Owners) {
	t.Helper()
	f, o, code := impl.ReadOwners(text)
	wantCode(t, "ReadOwners", code, impl.OK)
	return f, o
}

func TestBordersOf(t *testing.T) {
	for name, c := range map[string]struct {
		text    string
		borders [][2]int64
	}{
		"one cell":                                 {"3\n\n0\n", nil},
		"one owner":                                {"4 4\n4 4\n\n0 h\nt p\n", nil},
		"two owners, from west to east":            {"0 1\n\n0 0\n", [][2]int64{{0, 1}}},
		"two owners, from east to west":            {"1 0\n\n0 0\n", [][2]int64{{0, 1}}},
		"two owners, from north to south":          {"2\n7\n\n0\n0\n", [][2]int64{{2, 7}}},
		"two owners, from south to north":          {"7\n2\n\n0\n0\n", [][2]int64{{2, 7}}},
		"the first one and the last one":           {"9 0\n\nt t\n", [][2]int64{{0, 9}}},
		"the same pair at several sides":           {"0 1\n1 0\n\n0 0\n0 0\n", [][2]int64{{0, 1}}},
		"the same pair, far apart":                 {"5 3 5\n5 5 5\n5 5 3\n\n0 0 0\n0 0 0\n0 0 0\n", [][2]int64{{3, 5}}},
		"only a corner":                            {"0 1\n2 0\n\n0 0\n0 0\n", [][2]int64{{0, 1}, {0, 2}}},
		"both corners":                             {"0 1\n2 3\n\n0 0\n0 0\n", [][2]int64{{0, 1}, {0, 2}, {1, 3}, {2, 3}}},
		"nothing between":                          {"1 0 2\n\n0 0 0\n", [][2]int64{{0, 1}, {0, 2}}},
		"neither side nor corner":                  {"6 5 5 8\n\n0 0 0 0\n", [][2]int64{{5, 6}, {5, 8}}},
		"not over the end of a row":                {"0 0 1\n2 0 0\n\n0 0 0\n0 0 0\n", [][2]int64{{0, 1}, {0, 2}}},
		"ordered by the first, then by the second": {"9 8 1\n0 1 9\n8 9 0\n\n0 0 0\n0 0 0\n0 0 0\n", [][2]int64{{0, 1}, {0, 8}, {0, 9}, {1, 8}, {1, 9}, {8, 9}}},
		"of all kinds":                             {"0 1 2 3\n4 5 6 7\n\nh t p 5\nt h 0 p\n", [][2]int64{{0, 1}, {0, 4}, {1, 2}, {1, 5}, {2, 3}, {2, 6}, {3, 7}, {4, 5}, {5, 6}, {6, 7}}},
	} {
		f, o := ownedField(t, c.text)
		borders, code := impl.BordersOf(f, o)
		wantCode(t, name, code, impl.OK)
		wantBorders(t, name, borders, c.borders...)
	}
	borders, code := impl.BordersOf(lossBefore(t), goodOwners())
	wantCode(t, "six pairs", code, impl.OK)
	wantBorders(t, "six pairs", borders, [2]int64{0, 1}, [2]int64{0, 2}, [2]int64{0, 3}, [2]int64{1, 3}, [2]int64{1, 9}, [2]int64{3, 9})
	full := plainField(t, 10, 10)
	var every [][2]int64
	for a := range int64(9) {
		every = append(every, [2]int64{a, a + 1})
	}
	borders, code = impl.BordersOf(full, ownersOf(full, func(n int64) int64 { return n % 10 }))
	wantCode(t, "ten columns", code, impl.OK)
	wantBorders(t, "ten columns", borders, every...)
	borders, code = impl.BordersOf(full, ownersOf(full, func(n int64) int64 { return 9 - n/10 }))
	wantCode(t, "ten rows", code, impl.OK)
	wantBorders(t, "ten rows", borders, every...)
}

func TestBordersAreAsTold(t *testing.T) {
	many := 0
	for _, s := range someLossScenes() {
		borders, code := impl.BordersOf(s.before, s.o)
		wantCode(t, "BordersOf", code, impl.OK)
		wantBorders(t, "BordersOf", borders, bordersIn(s.before, s.o)...)
		if len(borders) > 30 {
			many++
		}
	}
	want(t, "there are some with many pairs", many > 10, true)
}

func TestErrorsOfOwners(t *testing.T) {
	f := lossBefore(t)
	for name, o := range brokenOwners() {
		for _, owner := range []int64{0, 9, -1, 10, math.MinInt64} {
			_, code := impl.PatchesOf(f, o, owner)
			wantCode(t, "PatchesOf with "+name, code, impl.ErrInvalid)
		}
		borders, code := impl.BordersOf(f, o)
		wantCode(t, "BordersOf with "+name, code, impl.ErrInvalid)
		wantBorders(t, "BordersOf with "+name, borders)
		losses, code := impl.LossByOwner(f, lossAfter(t), o)
		wantCode(t, "LossByOwner with "+name, code, impl.ErrInvalid)
		wantList(t, "LossByOwner with "+name, losses)
	}
}
