package tests

import (
	"math"
	"math/rand/v2"
	"slices"
	"testing"

	"loop.example/g01338/impl"
)

func TestSharesOf(t *testing.T) {
	const most = 1000000
	for _, c := range []struct {
		name    string
		amounts []int64
		money   int64
		shares  []int64
	}{
		{"no amounts and no money", nil, 0, nil},
		{"no amounts and no money, an empty list", []int64{}, 0, nil},
		{"amounts of 0 and no money", []int64{0, 0, 0}, 0, []int64{0, 0, 0}},
		{"one amount of 0 and no money", []int64{0}, 0, []int64{0}},
		{"amounts and no money", []int64{3, 0, most}, 0, []int64{0, 0, 0}},
		{"one amount", []int64{5}, 7, []int64{7}},
		{"one amount, MaxMoney", []int64{1}, most, []int64{most}},
		{"one amount of MaxMoney, MaxMoney", []int64{most}, most, []int64{most}},
		{"as much as there is", []int64{2, 2, 3}, 7, []int64{2, 2, 3}},
		{"twice as much", []int64{2, 2, 3}, 14, []int64{4, 4, 6}},
		{"remainders of 0", []int64{1, 1, 1}, 9, []int64{3, 3, 3}},
		{"equal remainders, 1 left", []int64{1, 1, 1}, 10, []int64{4, 3, 3}},
		{"equal remainders, 2 left", []int64{1, 1, 1}, 11, []int64{4, 4, 3}},
		{"2 left, to the first ones", []int64{2, 2, 3}, 10, []int64{3, 3, 4}},
		{"1 left, to the first one", []int64{1, 2, 3}, 10, []int64{2, 3, 5}},
		{"1 left, to the last one", []int64{3, 2, 1}, 10, []int64{5, 3, 2}},
		{"1 left, to the one between", []int64{3, 4, 5}, 5, []int64{1, 2, 2}},
		{"a remainder that is greater by 1, first", []int64{1, 2}, 2, []int64{1, 1}},
		{"a remainder that is greater by 1, last", []int64{2, 1}, 2, []int64{1, 1}},
		{"2 left, not to the first one", []int64{1, 2, 2}, 2, []int64{0, 1, 1}},
		{"2 left, to the last one and the first of two", []int64{1, 1, 2}, 3, []int64{1, 1, 1}},
		{"3 left, the last of them to the first of two", []int64{2, 3, 4, 3, 5}, 3, []int64{0, 1, 1, 0, 1}},
		{"4 left of 5", []int64{1, 1, 1, 1, 1}, 4, []int64{1, 1, 1, 1, 0}},
		{"less money than amounts", []int64{1, 1, 1, 1}, 1, []int64{1, 0, 0, 0}},
		{"less money than amounts, to the first of the greatest", []int64{1, 2, 2, 1}, 1, []int64{0, 1, 0, 0}},
		{"amounts of 0 get nothing", []int64{0, 1, 0, 1}, 3, []int64{0, 2, 0, 1}},
		{"an amount of 0 last", []int64{7, 0}, 1, []int64{1, 0}},
		{"an amount of 0 first", []int64{0, 7}, 1, []int64{0, 1}},
		{"MaxMoney and 1", []int64{most, 1}, most, []int64{most - 1, 1}},
		{"1 and MaxMoney", []int64{1, most}, most, []int64{1, most - 1}},
		{"MaxMoney twice, with 1 left", []int64{most, most}, most - 1, []int64{500000, 499999}},
		{"MaxMoney and nothing", []int64{most, 0, 0}, most, []int64{most, 0, 0}},
	} {
		shares, code := impl.SharesOf(c.amounts, c.money)
		wantCode(t, c.name, code, impl.OK)
		wantList(t, c.name, shares, c.shares...)
	}
}

func TestSharesOfManyAmounts(t *testing.T) {
	shares, code := impl.SharesOf(slices.Repeat([]int64{1000000}, 100), 1000000)
	wantCode(t, "100 amounts of MaxMoney", code, impl.OK)
	wantList(t, "100 amounts of MaxMoney", shares, slices.Repeat([]int64{10000}, 100)...)
	shares, code = impl.SharesOf(slices.Repeat([]int64{1}, 100), 150)
	wantCode(t, "100 amounts of 1", code, impl.OK)
	wantList(t, "100 amounts of 1", shares, slices.Concat(slices.Repeat([]int64{2}, 50), slices.Repeat([]int64{1}, 50))...)
	shares, code = impl.SharesOf(slices.Repeat([]int64{1000000}, 100), 999999)
	wantCode(t, "100 amounts, 99 left", code, impl.OK)
	wantList(t, "100 amounts, 99 left", shares, append(slices.Repeat([]int64{10000}, 99), 9999)...)
	shares, code = impl.SharesOf(make([]int64, 100), 0)
	wantCode(t, "100 amounts of 0", code, impl.OK)
	wantList(t, "100 amounts of 0", shares, make([]int64, 100)...)
}

// sharingCalls are the functions that divide money, and their code; those that check get a list.
func sharingCalls() map[string]func(amounts []int64, money int64, list []int64) int64 {
	return map[string]func(amounts []int64, money int64, list []int64) int64{
		"SharesOf": func(amounts []int64, money int64, _ []int64) int64 { _, e := impl.SharesOf(amounts, money); return e },
		"CheckShares": func(amounts []int64, money int64, list []int64) int64 {
			_, e := impl.CheckShares(amounts, money, list)
			return e
		},
		"EqualAwards": func(amounts []int64, money int64, _ []int64) int64 {
			_, e := impl.EqualAwards(amounts, money)
			return e
		},
		"CheckAwards": func(amounts []int64, money int64, list []int64) int64 {
			_, e := impl.CheckAwards(amounts, money, list)
			return e
		},
	}
}

func TestRangesOfMoneyAndAmounts(t *testing.T) {
	numbers := append([]int64{-2, 999999, 1000000, 1000001, -1000000}, farNumbers...)
	for name, call := range sharingCalls() {
		for _, list := range [][]int64{nil, {0}, {1, 2, 3}, {-1}, farNumbers} {
			for _, n := range numbers {
				isNone := n < 0 || n > 1000000
				for _, amounts := range [][]int64{{1}, {1, 2, 3}, {0, 5}, slices.Repeat([]int64{1000000}, 100)} {
					want(t, name+" with money", call(amounts, n, list) == impl.ErrRange, isNone)
					for i := range amounts {
						changed := slices.Clone(amounts)
						changed[i] = n
						want(t, name+" with an amount", call(changed, 0, list) == impl.ErrRange, isNone)
					}
				}
			}
			for count := range 210 {
				for _, amount := range []int64{0, 1, 1000000} {
					amounts := slices.Repeat([]int64{amount}, count)
					want(t, name+" with amounts", call(amounts, 0, list) == impl.ErrRange, count > 100)
				}
			}
			wantCode(t, name+" with a million amounts", call(make([]int64, 1000000), 0, list), impl.ErrRange)
			wantCode(t, name+" with 101 amounts, and money", call(make([]int64, 101), 1, list), impl.ErrRange)
		}
	}
}

// Only what must be given away completely needs somebody who gets it; that is found behind all that is out of range.
func TestMoneyForNobody(t *testing.T) {
	for name, call := range sharingCalls() {
		code := int64(impl.OK)
		if name == "SharesOf" || name == "CheckShares" {
			code = impl.ErrState
		}
		for _, money := range []int64{1, 2, 1000000} {
			for _, amounts := range [][]int64{nil, {}, {0}, {0, 0}, make([]int64, 100)} {
				for _, list := range [][]int64{nil, {0}, {0, 0}, {money}, {1, 1, 1}} {
					wantCode(t, name+" with money for nobody", call(amounts, money, list), code)
				}
			}
		}
		wantCode(t, name+" with too much money for nobody", call(nil, 1000001, nil), impl.ErrRange)
		wantCode(t, name+" with a debt of nobody", call([]int64{0}, -1, nil), impl.ErrRange)
		wantCode(t, name+" with amounts that sum to 0", call([]int64{1, -1}, 1, nil), impl.ErrRange)
		wantCode(t, name+" with too many amounts of 0", call(make([]int64, 101), 5, nil), impl.ErrRange)
		wantCode(t, name+" with no money for nobody", call(nil, 0, nil), impl.OK)
		wantCode(t, name+" with no money for amounts of 0", call([]int64{0, 0}, 0, nil), impl.OK)
	}
}

func TestCheckShares(t *testing.T) {
	three, thirds := []int64{2, 2, 3}, []int64{1, 1, 1}
	for _, c := range []struct {
		name    string
		amounts []int64
		money   int64
		shares  []int64
		fine    bool
	}{
		{"as SharesOf", three, 10, []int64{3, 3, 4}, true},
		{"another one is rounded up", three, 10, []int64{3, 2, 5}, true},
		{"others are rounded up", three, 10, []int64{2, 3, 5}, true},
		{"none is rounded up", three, 10, []int64{2, 2, 4}, false},
		{"all are rounded up", three, 10, []int64{3, 3, 5}, false},
		{"greater by 1, first", three, 10, []int64{4, 2, 4}, false},
		{"greater by 1, last", three, 10, []int64{2, 2, 6}, false},
		{"less by 1, first", three, 10, []int64{1, 4, 5}, false},
		{"less by 1, last", three, 10, []int64{3, 4, 3}, false},
		{"less by 1, and all others are rounded up", three, 11, []int64{4, 4, 3}, false},
		{"the sum is less by 1", three, 10, []int64{3, 2, 4}, false},
		{"the sum is greater by 1", three, 9, []int64{3, 3, 4}, false},
		{"fewer", three, 10, []int64{3, 3}, false},
		{"fewer, with the same sum", three, 10, []int64{5, 5}, false},
		{"more", three, 10, []int64{3, 3, 4, 0}, false},
		{"none", three, 10, nil, false},
		{"none, and no money", three, 0, nil, false},
		{"remainders of 0", thirds, 9, []int64{3, 3, 3}, true},
		{"remainders of 0, and off by 1", thirds, 9, []int64{4, 3, 2}, false},
		{"remainders of 0, and off by 1 the other way round", thirds, 9, []int64{2, 3, 4}, false},
		{"one remainder of 0, and off by 1", []int64{1, 2, 3}, 10, []int64{1, 3, 6}, false},
		{"one remainder of 0, and all right", []int64{1, 2, 3}, 10, []int64{1, 4, 5}, true},
		{"an amount of 0 gets 1", []int64{0, 7}, 1, []int64{1, 0}, false},
		{"an amount of 0 gets nothing", []int64{0, 7}, 1, []int64{0, 1}, true},
		{"no money", three, 0, []int64{0, 0, 0}, true},
		{"no money, and shares that sum to 0", three, 0, []int64{1, -1, 0}, false},
		{"amounts of 0", []int64{0, 0}, 0, []int64{0, 0}, true},
		{"amounts of 0, and shares that sum to 0", []int64{0, 0}, 0, []int64{1, -1}, false},
		{"amounts of 0, and the other way round", []int64{0, 0}, 0, []int64{-1, 1}, false},
		{"amounts of 0, and a share of 1", []int64{0, 0}, 0, []int64{0, 1}, false},
		{"amounts of 0, and fewer shares", []int64{0, 0}, 0, []int64{0}, false},
		{"amounts of 0, and more shares", []int64{0, 0}, 0, []int64{0, 0, 0}, false},
		{"no amounts", nil, 0, nil, true},
		{"no amounts, and an empty list", nil, 0, []int64{}, true},
		{"no amounts, and a share", nil, 0, []int64{0}, false},
		{"MaxMoney", []int64{1000000}, 1000000, []int64{1000000}, true},
		{"one more than MaxMoney", []int64{1000000}, 1000000, []int64{1000001}, false},
		{"a debt", []int64{1, 1}, 2, []int64{3, -1}, false},
		{"a sum that is right if it wraps", []int64{1, 1}, 2, []int64{math.MaxInt64, math.MinInt64 + 3}, false},
		{"another sum that wraps", []int64{1, 1, 1}, 3, []int64{math.MinInt64, math.MinInt64, 3}, false},
		{"a difference that wraps", []int64{1}, 1, []int64{math.MinInt64}, false},
		{"a million shares", []int64{1}, 1, make([]int64, 1000000), false},
	} {
		fine, code := impl.CheckShares(c.amounts, c.money, c.shares)
		wantCode(t, c.name, code, impl.OK)
		want(t, c.name, fine, c.fine)
	}
}

// nearTo returns a list in which some numbers are moved to others, or changed by 1.
func nearTo(r *rand.Rand, list []int64) []int64 {
	near := slices.Clone(list)
	for range r.IntN(3) {
		if len(near) == 0 {
			return near
		}
		near[r.IntN(len(near))]++
		near[r.IntN(len(near))]--
	}
	if len(near) > 0 && r.IntN(8) == 0 {
		near[r.IntN(len(near))] += int64(r.IntN(3)) - 1
	}
	return near
}

// someAmounts returns amounts and money, in some cases small ones with many ties, in others great ones.
func someAmounts(r *rand.Rand, small bool) ([]int64, int64) {
	most := []int64{1, 2, 3, 7, 30}[r.IntN(5)]
	money := int64(r.IntN(60))
	count := r.IntN(9)
	if !small {
		most, money, count = []int64{1, 10, 999, 1000000}[r.IntN(4)], int64(r.IntN(1000001)), r.IntN(101)
	}
	amounts := make([]int64, count)
	for i := range amounts {
		amounts[i] = r.Int64N(most + 1)
	}
	return amounts, money
}
