package tests

import (
	"testing"

	"loop.example/g01338/impl"
)

func TestExampleOfLosses(t *testing.T) {
	before, after, o := fieldOf(t, "3 5 2"), fieldOf(t, "1 5 0"), rowOwners(0, 1, 1)
	losses, code := impl.LossOf(before, after)
	wantCode(t, "LossOf", code, impl.OK)
	want(t, "LossOf", losses, [100]int16{0: 2, 1: 0, 2: 2})
	cell, loss, code := impl.WorstCell(before, after)
	want(t, "WorstCell", [3]int64{cell, loss, code}, [3]int64{0, 2, impl.OK})
	bare, code := impl.BareCells(before, after)
	wantCode(t, "BareCells", code, impl.OK)
	want(t, "BareCells", bare, setOf(2))
	owners, code := impl.LossByOwner(before, after, o)
	wantCode(t, "LossByOwner", code, impl.OK)
	wantList(t, "LossByOwner", owners, 2, 2, 0, 0, 0, 0, 0, 0, 0, 0)
	shares, code := impl.SharesOf([]int64{2, 2, 3}, 10)
	wantCode(t, "SharesOf", code, impl.OK)
	wantList(t, "SharesOf", shares, 3, 3, 4)
	awards, code := impl.EqualAwards([]int64{1, 5, 6}, 8)
	wantCode(t, "EqualAwards", code, impl.OK)
	wantList(t, "EqualAwards", awards, 1, 4, 3)
	guess, code := impl.GuessLoss(before, after, setOf(0, 1))
	want(t, "GuessLoss", [2]int64{guess, code}, [2]int64{3, impl.OK})
	least, most, code := impl.BoundsOfLoss(before, after, setOf(0, 1))
	want(t, "BoundsOfLoss", [3]int64{least, most, code}, [3]int64{2, 4, impl.OK})
}

func TestConstantsOfLosses(t *testing.T) {
	want(t, "MaxOwners", impl.MaxOwners, 10)
	want(t, "MaxMoney", impl.MaxMoney, 1000000)
}

func TestLossOfAndAllLoss(t *testing.T) {
	before, after := lossBefore(t), lossAfter(t)
	for name, c := range map[string]struct {
		before, after impl.Field
		losses        [100]int16
		sum           int64
	}{
		"several losses":        {before, after, [100]int16{0: 2, 3: 9, 20: 4, 22: 5, 23: 7}, 27},
		"the same field twice":  {before, before, [100]int16{}, 0},
		"the other one twice":   {after, after, [100]int16{}, 0},
		"a loss of one cell":    {before, fieldOf(t, "3 h 5 9", "t 2 0 p", "4 6 6 999"), [100]int16{23: 1}, 1},
		"MaxSeeds":              {fieldOf(t, "1000"), fieldOf(t, "0"), [100]int16{0: 1000}, 1000},
		"all of it":             {before, fieldOf(t, "0 h 0 0", "t 0 0 p", "0 0 0 0"), [100]int16{0: 3, 2: 5, 3: 9, 11: 2, 20: 4, 21: 6, 22: 6, 23: 1000}, 1035},
		"no soil":               {fieldOf(t, "h t", "p h"), fieldOf(t, "h t", "p h"), [100]int16{}, 0},
		"one in the last of 99": {fieldOf(t, "0 1 0 0 0 0 0 0 0 8"), fieldOf(t, "0 1 0 0 0 0 0 0 0 3"), [100]int16{9: 5}, 5},
	} {
		losses, code := impl.LossOf(c.before, c.after)
		wantCode(t, name, code, impl.OK)
		want(t, name, losses, c.losses)
		sum, code := impl.AllLoss(c.before, c.after)
		want(t, name, [2]int64{sum, code}, [2]int64{c.sum, impl.OK})
	}
	full, _ := impl.PlainField(10, 10, 1000)
	bare, _ := impl.PlainField(10, 10, 0)
	losses, code := impl.LossOf(full, bare)
	wantCode(t, "MaxSeeds everywhere", code, impl.OK)
	want(t, "MaxSeeds everywhere", losses, full.Seeds)
	sum, code := impl.AllLoss(full, bare)
	want(t, "MaxSeeds everywhere", [2]int64{sum, code}, [2]int64{100000, impl.OK})
}

func TestWorstCell(t *testing.T) {
	before := lossBefore(t)
	for name, c := range map[string]struct {
		before, after impl.Field
		cell, loss    int64
	}{
		"one of several":                        {before, lossAfter(t), 3, 9},
		"the same field twice":                  {before, before, 0, 0},
		"no losses, and a hedge first":          {fieldOf(t, "h 5"), fieldOf(t, "h 5"), 0, 0},
		"no losses, and a tree first":           {fieldOf(t, "t 5"), fieldOf(t, "t 5"), 0, 0},
		"no soil":                               {fieldOf(t, "p"), fieldOf(t, "p"), 0, 0},
		"the last cell":                         {before, fieldOf(t, "3 h 5 9", "t 2 0 p", "4 6 6 999"), 23, 1},
		"the last cell, and less in others":     {before, fieldOf(t, "0 h 0 0", "t 0 0 p", "0 0 0 0"), 23, 1000},
		"the least number of two, in one row":   {fieldOf(t, "1 3 2 3"), fieldOf(t, "0 0 0 0"), 1, 3},
		"the least number of two, in two rows":  {fieldOf(t, "1 2 5", "5 0 0"), fieldOf(t, "0 0 0", "0 0 0"), 2, 5},
		"the least number, in one column":       {fieldOf(t, "0 1", "0 4", "4 4"), fieldOf(t, "0 0", "0 0", "0 0"), 11, 4},
		"greater by 1, and behind others":       {fieldOf(t, "6 6 6", "6 6 7"), fieldOf(t, "0 0 0", "0 0 0"), 12, 7},
		"greater by 1, and before others":       {fieldOf(t, "7 6 6", "6 6 6"), fieldOf(t, "0 0 0", "0 0 0"), 0, 7},
		"the most seeds, but not the most less": {fieldOf(t, "1000 5 900"), fieldOf(t, "999 3 899"), 1, 2},
		"a field of one cell":                   {fieldOf(t, "1000"), fieldOf(t, "0"), 0, 1000},
	} {
		cell, loss, code := impl.WorstCell(c.before, c.after)
		want(t, name, [3]int64{cell, loss, code}, [3]int64{c.cell, c.loss, impl.OK})
	}
}

// Of all cells that lose the same, in one row or in several, the least number is the worst one.
func TestWorstOfEqualCells(t *testing.T) {
	before := plainField(t, 10, 10)
	for a := range 100 {
		for b := range 100 {
			after := before
			after.Seeds[a], after.Seeds[b] = 1, 1
			cell, loss, code := impl.WorstCell(before, after)
			want(t, "two cells", [3]int64{cell, loss, code}, [3]int64{int64(min(a, b)), 4, impl.OK})
			if after.Seeds[b] = 0; a != b {
				cell, loss, code = impl.WorstCell(before, after)
				want(t, "one that is worse", [3]int64{cell, loss, code}, [3]int64{int64(b), 5, impl.OK})
			}
		}
	}
	bare, _ := impl.PlainField(10, 10, 0)
	cell, loss, code := impl.WorstCell(before, bare)
	want(t, "all cells", [3]int64{cell, loss, code}, [3]int64{0, 5, impl.OK})
}

func TestBareCells(t *testing.T) {
	before := lossBefore(t)
	for name, c := range map[string]struct {
		before, after impl.Field
		bare          impl.Cells
	}{
		"two of several":                {before, lossAfter(t), setOf(3, 20)},
		"the same field twice":          {before, before, setOf()},
		"bare before and after":         {fieldOf(t, "0 0", "h 0"), fieldOf(t, "0 0", "h 0"), setOf()},
		"all that had some":             {before, fieldOf(t, "0 h 0 0", "t 0 0 p", "0 0 0 0"), setOf(0, 2, 3, 11, 20, 21, 22, 23)},
		"all but one":                   {fieldOf(t, "1000 1000"), fieldOf(t, "1 0"), setOf(1)},
		"the only seed":                 {fieldOf(t, "1 1"), fieldOf(t, "1 0"), setOf(1)},
		"no soil":                       {fieldOf(t, "h t p"), fieldOf(t, "h t p"), setOf()},
		"one, beside others that never": {fieldOf(t, "0 0 3 0"), fieldOf(t, "0 0 0 0"), setOf(2)},
	} {
		bare, code := impl.BareCells(c.before, c.after)
		wantCode(t, name, code, impl.OK)
		want(t, name, bare, c.bare)
	}
	full, _ := impl.PlainField(10, 10, 1)
	empty, _ := impl.PlainField(10, 10, 0)
	bare, code := impl.BareCells(full, empty)
	wantCode(t, "all numbers", code, impl.OK)
	want(t, "all numbers", bare, impl.Cells{^uint64(0), 1<<36 - 1})
}

func TestLossesAreAsTold(t *testing.T) {
	for _, s := range someLossScenes() {
		losses, code := impl.LossOf(s.before, s.after)
		wantCode(t, "LossOf", code, impl.OK)
		bare, code := impl.BareCells(s.before, s.after)
		wantCode(t, "BareCells", code, impl.OK)
		worst := int64(0)
		for n := range int64(100) {
			want(t, "a loss", int64(losses[n]), s.lossAt(n))
			want(t, "a bare cell", isIn(bare, n), s.before.Seeds[n] > 0 && s.after.Seeds[n] == 0)
			if s.lossAt(n) > s.lossAt(worst) {
				worst = n
			}
		}
		want(t, "bits greater than 99", bare[1]&strayBits()[1], 0)
		cell, loss, code := impl.WorstCell(s.before, s.after)
		want(t, "WorstCell", [3]int64{cell, loss, code}, [3]int64{worst, s.lossAt(worst), impl.OK})
	}
}

// pairCalls are all functions with two fields, and their code.
func pairCalls() map[string]func(before, after impl.Field, o impl.Owners, sample impl.Cells, claims []int64) int64 {
	return map[string]func(before, after impl.Field, o impl.Owners, sample impl.Cells, claims []int64) int64{
		"LossOf": func(before, after impl.Field, _ impl.Owners, _ impl.Cells, _ []int64) int64 {
			_, e := impl.LossOf(before, after)
			return e
		},
		"AllLoss": func(before, after impl.Field, _ impl.Owners, _ impl.Cells, _ []int64) int64 {
			_, e := impl.AllLoss(before, after)
			return e
		},
		"WorstCell": func(before, after impl.Field, _ impl.Owners, _ impl.Cells, _ []int64) int64 {
			_, _, e := impl.WorstCell(before, after)
			return e
		},
		"BareCells": func(before, after impl.Field, _ impl.Owners, _ impl.Cells, _ []int64) int64 {
			_, e := impl.BareCells(before, after)
			return e
		},
		"LossByOwner": func(before, after impl.Field, o impl.Owners, _ impl.Cells, _ []int64) int64 {
			_, e := impl.LossByOwner(before, after, o)
			return e
		},
		"FairClaims": func(before, after impl.Field, o impl.Owners, _ impl.Cells, claims []int64) int64 {
			_, e := impl.FairClaims(before, after, o, claims)
			return e
		},
		"FalseClaims": func(before, after impl.Field, o impl.Owners, _ impl.Cells, claims []int64) int64 {
			_, e := impl.FalseClaims(before, after, o, claims)
			return e
		},
		"GuessLoss": func(before, after impl.Field, _ impl.Owners, sample impl.Cells, _ []int64) int64 {
			_, e := impl.GuessLoss(before, after, sample)
			return e
		},
		"BoundsOfLoss": func(before, after impl.Field, _ impl.Owners, sample impl.Cells, _ []int64) int64 {
			_, _, e := impl.BoundsOfLoss(before, after, sample)
			return e
		},
	}
}

// Fields that are not before and after one another are refused before claims and samples are looked at, but behind all that is not valid.
func TestFieldsThatAreNotBeforeAndAfter(t *testing.T) {
	before := lossBefore(t)
	for name, call := range pairCalls() {
		hasOwners := name == "LossByOwner" || name == "FairClaims" || name == "FalseClaims"
		for how, other := range notAfter(t) {
			for _, claims := range [][]int64{make([]int64, 10), nil, {-1}, make([]int64, 11)} {
				for _, sample := range []impl.Cells{setOf(0), {}, everything()} {
					wantCode(t, name+", "+how, call(before, other, goodOwners(), sample, claims), impl.ErrState)
				}
			}
			for broken, o := range brokenOwners() {
				if hasOwners {
					wantCode(t, name+", "+how+", with owners "+broken, call(before, other, o, setOf(0), nil), impl.ErrInvalid)
				}
			}
			for broken, f := range brokenFields() {
				wantCode(t, name+", "+how+", before a field with "+broken, call(other, f, goodOwners(), setOf(), nil), impl.ErrInvalid)
				wantCode(t, name+", "+how+", behind a field with "+broken, call(f, other, goodOwners(), setOf(), nil), impl.ErrInvalid)
			}
		}
		wantCode(t, name+", exchanged", call(lossAfter(t), before, goodOwners(), setOf(0), make([]int64, 10)), impl.ErrState)
		wantCode(t, name+", in order", call(before, lossAfter(t), goodOwners(), setOf(0), make([]int64, 10)), impl.OK)
		wantCode(t, name+", twice the same", call(before, before, goodOwners(), setOf(0), make([]int64, 10)), impl.OK)
		wantCode(t, name+", two that are none", call(impl.Field{}, impl.Field{}, impl.Owners{}, setOf(), nil), impl.ErrInvalid)
	}
}

// Owners are held against the field before; if it has other sides than the one after, that is a matter of both fields.
func TestOwnersOfTheFieldBefore(t *testing.T) {
	for name, other := range notAfter(t) {
		if other.Wide == 4 && other.High == 3 {
			continue
		}
		o := ownersOf(other, func(int64) int64 { return 0 })
		_, code := impl.LossByOwner(other, lossBefore(t), o)
		wantCode(t, "owners of the field before, "+name, code, impl.ErrState)
		_, code = impl.LossByOwner(lossBefore(t), other, o)
		wantCode(t, "owners of the field after, "+name, code, impl.ErrInvalid)
	}
}
