package tests

import (
	"slices"
	"testing"

	"loop.example/g01338/impl"
)

func TestFairAndFalseClaims(t *testing.T) {
	before, after, o := lossBefore(t), lossAfter(t), goodOwners()
	for _, c := range []struct {
		name          string
		claims        []int64
		fair, untrues []int64
	}{
		{"nothing", []int64{0, 0, 0, 0, 0, 0, 0, 0, 0, 0}, []int64{0, 0, 0, 0, 0, 0, 0, 0, 0, 0}, nil},
		{"equal to the losses", []int64{2, 0, 4, 12, 0, 0, 0, 0, 0, 9}, []int64{2, 0, 4, 12, 0, 0, 0, 0, 0, 9}, nil},
		{"less by 1", []int64{1, 0, 3, 11, 0, 0, 0, 0, 0, 8}, []int64{1, 0, 3, 11, 0, 0, 0, 0, 0, 8}, nil},
		{"greater by 1", []int64{3, 1, 5, 13, 1, 1, 1, 1, 1, 10}, []int64{2, 0, 4, 12, 0, 0, 0, 0, 0, 9}, []int64{0, 1, 2, 3, 4, 5, 6, 7, 8, 9}},
		{"some of each", []int64{2, 1, 3, 13, 0, 0, 5, 0, 0, 1000000}, []int64{2, 0, 3, 12, 0, 0, 0, 0, 0, 9}, []int64{1, 3, 6, 9}},
		{"MaxMoney", slices.Repeat([]int64{1000000}, 10), []int64{2, 0, 4, 12, 0, 0, 0, 0, 0, 9}, []int64{0, 1, 2, 3, 4, 5, 6, 7, 8, 9}},
		{"only the first one", []int64{3, 0, 0, 0, 0, 0, 0, 0, 0, 0}, []int64{2, 0, 0, 0, 0, 0, 0, 0, 0, 0}, []int64{0}},
		{"only the last one", []int64{0, 0, 0, 0, 0, 0, 0, 0, 0, 10}, []int64{0, 0, 0, 0, 0, 0, 0, 0, 0, 9}, []int64{9}},
	} {
		fair, code := impl.FairClaims(before, after, o, c.claims)
		wantCode(t, "FairClaims, "+c.name, code, impl.OK)
		wantList(t, "FairClaims, "+c.name, fair, c.fair...)
		untrues, code := impl.FalseClaims(before, after, o, c.claims)
		wantCode(t, "FalseClaims, "+c.name, code, impl.OK)
		wantList(t, "FalseClaims, "+c.name, untrues, c.untrues...)
	}
	for _, s := range someLossScenes() {
		var fair, untrues []int64
		for owner, loss := range lossesByOwnerIn(s) {
			fair = append(fair, min(loss, s.claims[owner]))
			if s.claims[owner] > loss {
				untrues = append(untrues, int64(owner))
			}
		}
		got, code := impl.FairClaims(s.before, s.after, s.o, s.claims)
		wantCode(t, "FairClaims", code, impl.OK)
		wantList(t, "FairClaims", got, fair...)
		got, code = impl.FalseClaims(s.before, s.after, s.o, s.claims)
		wantCode(t, "FalseClaims", code, impl.OK)
		wantList(t, "FalseClaims", got, untrues...)
	}
}

func TestErrorsOfClaims(t *testing.T) {
	before, after, o := lossBefore(t), lossAfter(t), goodOwners()
	for _, name := range []string{"FairClaims", "FalseClaims"} {
		call := pairCalls()[name]
		for count := range 30 {
			code := call(before, after, o, setOf(), make([]int64, count))
			want(t, name+" with claims", code == impl.ErrRange, count != 10)
		}
		wantCode(t, name+" with no claims", call(before, after, o, setOf(), nil), impl.ErrRange)
		wantCode(t, name+" with a million claims", call(before, after, o, setOf(), make([]int64, 1000000)), impl.ErrRange)
		for _, n := range append([]int64{999999, 1000000, 1000001}, farNumbers...) {
			for owner := range 10 {
				claims := make([]int64, 10)
				claims[owner] = n
				code := call(before, after, o, setOf(), claims)
				want(t, name+" with a claim", code == impl.ErrRange, n < 0 || n > 1000000)
				wantCode(t, name+" with a claim, and no owners", call(before, after, impl.Owners{}, setOf(), claims), impl.ErrInvalid)
				wantCode(t, name+" with a claim, and more after than before", call(after, before, o, setOf(), claims), impl.ErrState)
			}
		}
	}
	fair, code := impl.FairClaims(before, after, o, make([]int64, 9))
	wantCode(t, "FairClaims with 9", code, impl.ErrRange)
	wantList(t, "FairClaims with 9", fair)
	untrues, code := impl.FalseClaims(before, after, o, slices.Repeat([]int64{1000001}, 10))
	wantCode(t, "FalseClaims with more than MaxMoney", code, impl.ErrRange)
	wantList(t, "FalseClaims with more than MaxMoney", untrues)
}

func TestGuessLoss(t *testing.T) {
	before, after := lossBefore(t), lossAfter(t)
	for name, c := range map[string]struct {
		sample      impl.Cells
		guess, code int64
	}{
		"one cell":                            {setOf(0), 18, impl.OK},
		"one cell without a loss":             {setOf(2), 0, impl.OK},
		"one cell that is bare":               {setOf(12), 0, impl.OK},
		"the cell with the greatest loss":     {setOf(3), 81, impl.OK},
		"two cells, with a remainder":         {setOf(0, 3), 49, impl.OK},
		"four cells, with a remainder of 1":   {setOf(3, 20, 22, 23), 56, impl.OK},
		"four cells, with a remainder of 2":   {setOf(0, 2, 11, 12), 4, impl.OK},
		"three cells, without a remainder":    {setOf(0, 2, 11), 6, impl.OK},
		"eight cells, with a remainder of 1":  {setOf(0, 2, 3, 11, 12, 20, 21, 22), 22, impl.OK},
		"all soil":                            {setOf(0, 2, 3, 11, 12, 20, 21, 22, 23), 27, impl.OK},
		"all cells":                           {setOf(0, 1, 2, 3, 10, 11, 12, 13, 20, 21, 22, 23), 27, impl.OK},
		"all numbers, and more":               {everything(), 27, impl.OK},
		"soil and others":                     {setOf(0, 1, 10, 13), 18, impl.OK},
		"soil and numbers that are no cells":  {setOf(3, 4, 9, 24, 30, 99), 81, impl.OK},
		"soil and bits greater than 99":       {withStrays(setOf(0, 3)), 49, impl.OK},
		"no cells":                            {setOf(), 0, impl.ErrNotFound},
		"no soil cells":                       {setOf(1, 10, 13), 0, impl.ErrNotFound},
		"only numbers that are no cells":      {setOf(4, 9, 24, 30, 99), 0, impl.ErrNotFound},
		"only bits greater than 99":           {strayBits(), 0, impl.ErrNotFound},
		"no soil, no cells, and greater bits": {withStrays(setOf(1, 4, 99)), 0, impl.ErrNotFound},
	} {
		guess, code := impl.GuessLoss(before, after, c.sample)
		want(t, name, [2]int64{guess, code}, [2]int64{c.guess, c.code})
	}
	none := fieldOf(t, "h p", "t t")
	_, code := impl.GuessLoss(none, none, everything())
	wantCode(t, "a field without soil", code, impl.ErrNotFound)
	_, code = impl.GuessLoss(after, before, setOf())
	wantCode(t, "no cells, and more after than before", code, impl.ErrState)
	_, code = impl.GuessLoss(impl.Field{}, before, setOf())
	wantCode(t, "no cells, and no field", code, impl.ErrInvalid)
	full, _ := impl.PlainField(10, 10, 1000)
	bare, _ := impl.PlainField(10, 10, 0)
	for _, sample := range []impl.Cells{setOf(0), setOf(63, 64), setOf(99), everything()} {
		guess, code := impl.GuessLoss(full, bare, sample)
		want(t, "the greatest loss", [2]int64{guess, code}, [2]int64{100000, impl.OK})
	}
}

func TestBoundsOfLoss(t *testing.T) {
	before, after := lossBefore(t), lossAfter(t)
	for name, c := range map[string]struct {
		sample      impl.Cells
		least, most int64
	}{
		"no cells":                           {setOf(), 0, 1035},
		"no soil cells":                      {setOf(1, 10, 13), 0, 1035},
		"only numbers that are no cells":     {setOf(4, 9, 24, 30, 99), 0, 1035},
		"only bits greater than 99":          {strayBits(), 0, 1035},
		"one cell":                           {setOf(0), 2, 1034},
		"one cell that has lost all":         {setOf(3), 9, 1035},
		"one cell without a loss":            {setOf(21), 0, 1029},
		"one cell that never had seeds":      {setOf(12), 0, 1035},
		"the cell with the most seeds":       {setOf(23), 7, 42},
		"several cells":                      {setOf(0, 2, 20, 23), 13, 36},
		"all soil but one cell":              {setOf(0, 2, 3, 11, 12, 20, 21, 23), 22, 28},
		"all soil":                           {setOf(0, 2, 3, 11, 12, 20, 21, 22, 23), 27, 27},
		"all numbers, and more":              {everything(), 27, 27},
		"soil and others":                    {setOf(0, 1, 10, 13), 2, 1034},
		"soil and numbers that are no cells": {setOf(23, 24, 30, 99), 7, 42},
		"soil and bits greater than 99":      {withStrays(setOf(23)), 7, 42},
	} {
		least, most, code := impl.BoundsOfLoss(before, after, c.sample)
		want(t, name, [3]int64{least, most, code}, [3]int64{c.least, c.most, impl.OK})
	}
	none := fieldOf(t, "h p", "t t")
	least, most, code := impl.BoundsOfLoss(none, none, everything())
	want(t, "a field without soil", [3]int64{least, most, code}, [3]int64{0, 0, impl.OK})
	full, _ := impl.PlainField(10, 10, 1000)
	bare, _ := impl.PlainField(10, 10, 0)
	least, most, code = impl.BoundsOfLoss(full, bare, setOf())
	want(t, "the greatest loss, and no cells", [3]int64{least, most, code}, [3]int64{0, 100000, impl.OK})
	least, most, code = impl.BoundsOfLoss(full, bare, setOf(99))
	want(t, "the greatest loss, and one cell", [3]int64{least, most, code}, [3]int64{1000, 100000, impl.OK})
	least, most, code = impl.BoundsOfLoss(full, full, setOf(99, 0))
	want(t, "no loss, and two cells", [3]int64{least, most, code}, [3]int64{0, 98000, impl.OK})
}

func TestGuessesAndBoundsAreAsTold(t *testing.T) {
	for _, s := range someLossScenes() {
		isLooked := func(n int64) bool { return s.soilAt(n) && isIn(s.sample, n) }
		one := func(int64) int64 { return 1 }
		seen, looked, soil := sumOver(s.lossAt, isLooked), sumOver(one, isLooked), sumOver(one, s.soilAt)
		guess, code := impl.GuessLoss(s.before, s.after, s.sample)
		if looked == 0 {
			want(t, "GuessLoss", [2]int64{guess, code}, [2]int64{0, impl.ErrNotFound})
		} else {
			wantCode(t, "GuessLoss", code, impl.OK)
			want(t, "GuessLoss", guess*looked <= seen*soil && seen*soil < (guess+1)*looked, true)
		}
		rest := sumOver(func(n int64) int64 { return int64(s.before.Seeds[n]) }, func(n int64) bool { return s.soilAt(n) && !isIn(s.sample, n) })
		least, most, code := impl.BoundsOfLoss(s.before, s.after, s.sample)
		want(t, "BoundsOfLoss", [3]int64{least, most, code}, [3]int64{seen, seen + rest, impl.OK})
	}
}
