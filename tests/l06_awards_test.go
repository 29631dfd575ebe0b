package tests

import (
	"math"
	"slices"
	"testing"

	"loop.example/g01338/impl"
)

func TestEqualAwards(t *testing.T) {
	const most = 1000000
	three := []int64{1, 5, 6}
	for _, c := range []struct {
		name   string
		claims []int64
		money  int64
		awards []int64
	}{
		{"no claims and no money", nil, 0, nil},
		{"no claims and money", nil, 5, nil},
		{"no claims, an empty list", []int64{}, most, nil},
		{"claims of 0 and no money", []int64{0, 0}, 0, []int64{0, 0}},
		{"claims of 0 and money", []int64{0, 0}, 7, []int64{0, 0}},
		{"no money", three, 0, []int64{0, 0, 0}},
		{"money of 1", three, 1, []int64{1, 0, 0}},
		{"money of 2", three, 2, []int64{1, 1, 0}},
		{"money of 3", three, 3, []int64{1, 1, 1}},
		{"1 left, to one who claims more", three, 4, []int64{1, 2, 1}},
		{"1 left, not to one who has all", three, 8, []int64{1, 4, 3}},
		{"nothing left", three, 9, []int64{1, 4, 4}},
		{"less by 2 than enough", three, 10, []int64{1, 5, 4}},
		{"less by 1 than enough", three, 11, []int64{1, 5, 5}},
		{"just enough", three, 12, []int64{1, 5, 6}},
		{"more by 1 than enough", three, 13, []int64{1, 5, 6}},
		{"MaxMoney", three, most, []int64{1, 5, 6}},
		{"equal claims", []int64{5, 5, 5}, 9, []int64{3, 3, 3}},
		{"equal claims, 1 left", []int64{5, 5, 5}, 10, []int64{4, 3, 3}},
		{"equal claims, 2 left", []int64{5, 5, 5}, 11, []int64{4, 4, 3}},
		{"equal claims, less by 1 than enough", []int64{5, 5, 5}, 14, []int64{5, 5, 4}},
		{"claims of 0 between", []int64{0, 3, 0, 3}, 3, []int64{0, 2, 0, 1}},
		{"the greatest claim first", []int64{6, 1, 5, 2}, 8, []int64{3, 1, 2, 2}},
		{"the greatest claim first, nothing left", []int64{6, 1, 5, 2}, 9, []int64{3, 1, 3, 2}},
		{"the greatest claim first, 1 left", []int64{6, 1, 5, 2}, 10, []int64{4, 1, 3, 2}},
		{"a rest that is all one claims", []int64{2, 1, 3}, 4, []int64{2, 1, 1}},
		{"a rest to the least index, not to the greatest claim", []int64{3, 9, 3}, 4, []int64{2, 1, 1}},
		{"a rest to the greatest claim, which is last", []int64{1, 2, 9}, 8, []int64{1, 2, 5}},
		{"one claim, and less", []int64{7}, 3, []int64{3}},
		{"one claim, and more", []int64{7}, 30, []int64{7}},
		{"a claim of MaxMoney", []int64{most}, most, []int64{most}},
		{"a claim of MaxMoney, less by 1", []int64{most}, most - 1, []int64{most - 1}},
		{"claims of MaxMoney", []int64{most, 0, most}, most, []int64{500000, 0, 500000}},
		{"claims of MaxMoney, 1 left", []int64{most, most}, most - 1, []int64{500000, 499999}},
		{"1 and MaxMoney", []int64{1, most}, most, []int64{1, most - 1}},
	} {
		awards, code := impl.EqualAwards(c.claims, c.money)
		wantCode(t, c.name, code, impl.OK)
		wantList(t, c.name, awards, c.awards...)
		fine, code := impl.CheckAwards(c.claims, c.money, awards)
		wantCode(t, c.name, code, impl.OK)
		want(t, c.name, fine, true)
	}
}

func TestEqualAwardsOfManyClaims(t *testing.T) {
	claims := slices.Repeat([]int64{1000000}, 100)
	awards, code := impl.EqualAwards(claims, 1000000)
	wantCode(t, "100 claims of MaxMoney", code, impl.OK)
	wantList(t, "100 claims of MaxMoney", awards, slices.Repeat([]int64{10000}, 100)...)
	awards, code = impl.EqualAwards(claims, 999999)
	wantCode(t, "100 claims, 99 left", code, impl.OK)
	wantList(t, "100 claims, 99 left", awards, append(slices.Repeat([]int64{10000}, 99), 9999)...)
	claims[0] = 1
	awards, code = impl.EqualAwards(claims, 50)
	wantCode(t, "100 claims, and less money", code, impl.OK)
	wantList(t, "100 claims, and less money", awards, slices.Concat(slices.Repeat([]int64{1}, 50), make([]int64, 50))...)
	awards, code = impl.EqualAwards(claims, 101)
	wantCode(t, "100 claims, and more money by 1", code, impl.OK)
	wantList(t, "100 claims, and more money by 1", awards, slices.Concat([]int64{1, 2}, slices.Repeat([]int64{1}, 98))...)
}

func TestCheckAwards(t *testing.T) {
	three, two := []int64{1, 5, 6}, []int64{9, 9}
	for _, c := range []struct {
		name   string
		claims []int64
		money  int64
		awards []int64
		fine   bool
	}{
		{"as EqualAwards", three, 8, []int64{1, 4, 3}, true},
		{"the rest goes to another one", three, 8, []int64{1, 3, 4}, true},
		{"greater by 1 than one that is cut", two, 7, []int64{4, 3}, true},
		{"greater by 1, the other way round", two, 7, []int64{3, 4}, true},
		{"greater by 2 than one that is cut", two, 8, []int64{5, 3}, false},
		{"greater by 2, the other way round", two, 8, []int64{3, 5}, false},
		{"equal ones", two, 8, []int64{4, 4}, true},
		{"greater by 3", two, 7, []int64{5, 2}, false},
		{"greater by 2 than one that is not cut", []int64{1, 9, 9}, 7, []int64{1, 3, 3}, true},
		{"greater by 2, though it is not cut itself", []int64{4, 9}, 6, []int64{4, 2}, false},
		{"greater by 1, and not cut itself", []int64{4, 9}, 7, []int64{4, 3}, true},
		{"greater by 2 than one of two that are cut", []int64{9, 9, 9}, 10, []int64{4, 4, 2}, false},
		{"all or nothing", three, 6, []int64{1, 5, 0}, false},
		{"a small claim is cut", three, 8, []int64{0, 4, 4}, false},
		{"a small claim is cut, and others get 1", three, 2, []int64{0, 1, 1}, true},
		{"greater than the claim, by 1", three, 8, []int64{2, 3, 3}, false},
		{"greater than the last claim, by 1", []int64{5, 1}, 4, []int64{2, 2}, false},
		{"less than 0", three, 8, []int64{-1, 4, 5}, false},
		{"less than 0 by much", three, 8, []int64{1, math.MinInt64, 3}, false},
		{"the sum is less by 1", three, 8, []int64{1, 3, 3}, false},
		{"the sum is greater by 1", three, 8, []int64{1, 4, 4}, false},
		{"nothing, though there is money", three, 8, []int64{0, 0, 0}, false},
		{"fewer", three, 8, []int64{1, 7}, false},
		{"fewer, with the same sum", three, 8, []int64{4, 4}, false},
		{"more", three, 8, []int64{1, 4, 3, 0}, false},
		{"none", three, 8, nil, false},
		{"none, and no money", three, 0, nil, false},
		{"no money", three, 0, []int64{0, 0, 0}, true},
		{"no money, and awards that sum to 0", three, 0, []int64{1, -1, 0}, false},
		{"just enough", three, 12, []int64{1, 5, 6}, true},
		{"enough, and more", three, 20, []int64{1, 5, 6}, true},
		{"enough, but less by 1", three, 12, []int64{1, 5, 5}, false},
		{"more than enough, but less by 1", three, 20, []int64{1, 5, 5}, false},
		{"more than enough, and all of it", three, 20, []int64{1, 5, 14}, false},
		{"less by 1 than enough", three, 11, []int64{1, 5, 5}, true},
		{"less by 1 than enough, from another one", three, 11, []int64{1, 4, 6}, false},
		{"claims of 0", []int64{0, 0}, 5, []int64{0, 0}, true},
		{"claims of 0, and no money", []int64{0, 0}, 0, []int64{0, 0}, true},
		{"claims of 0, and an award of 1", []int64{0, 0}, 1, []int64{0, 1}, false},
		{"a claim of 0 among others", []int64{0, 4, 4}, 5, []int64{0, 3, 2}, true},
		{"no claims", nil, 9, nil, true},
		{"no claims, and no money", nil, 0, []int64{}, true},
		{"no claims, and an award", nil, 0, []int64{0}, false},
		{"MaxMoney", []int64{1000000}, 1000000, []int64{1000000}, true},
		{"MaxMoney twice", []int64{1000000, 1000000}, 1000000, []int64{500000, 500000}, true},
		{"MaxMoney beside one that gets nothing", []int64{1000000, 1000000}, 1000000, []int64{1000000, 0}, false},
		{"a sum that is right if it wraps", []int64{1, 1}, 2, []int64{math.MaxInt64, math.MinInt64 + 3}, false},
		{"differences that wrap", two, 8, []int64{math.MinInt64, math.MaxInt64}, false},
		{"a million awards", []int64{1}, 0, make([]int64, 1000000), false},
	} {
		fine, code := impl.CheckAwards(c.claims, c.money, c.awards)
		wantCode(t, c.name, code, impl.OK)
		want(t, c.name, fine, c.fine)
	}
}
