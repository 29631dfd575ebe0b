package tests

import (
	"math"
	"math/rand/v2"
	"slices"
	"testing"

	"loop.example/g01338/impl"
)

func TestExampleOfBeats(t *testing.T) {
	f, b := plainField(t, 3, 1), impl.Beat{0, 1, 2, 1}
	minutes, code := impl.MinutesOf(f, b, 0, 0)
	wantCode(t, "MinutesOf 0", code, impl.OK)
	wantList(t, "MinutesOf 0", minutes, 0)
	gap, code := impl.GapOf(f, b, 0, 0)
	wantCode(t, "GapOf 0", code, impl.OK)
	want(t, "GapOf 0", gap, 4)
	minutes, code = impl.MinutesOf(f, b, 0, 1)
	wantCode(t, "MinutesOf 1", code, impl.OK)
	wantList(t, "MinutesOf 1", minutes, 1, 3)
	gap, code = impl.GapOf(f, b, 0, 1)
	wantCode(t, "GapOf 1", code, impl.OK)
	want(t, "GapOf 1", gap, 2)
	gap, code = impl.GapWith(f, b, 0, 0, 2)
	wantCode(t, "GapWith", code, impl.OK)
	want(t, "GapWith", gap, 2)
	shortest, code := impl.ShortestBeat(f, 0, 0, []int64{0, 2})
	wantCode(t, "ShortestBeat", code, impl.OK)
	wantBeat(t, "ShortestBeat", shortest, b...)
	shortest, code = impl.ShortestBeat(f, 0, 1, []int64{0, 2})
	wantCode(t, "ShortestBeat with sight 1", code, impl.OK)
	wantBeat(t, "ShortestBeat with sight 1", shortest, 0, 1)
	shifts, code := impl.FewestShifts([]int64{1, 2, 1, 1}, 2)
	wantCode(t, "FewestShifts", code, impl.OK)
	wantList(t, "FewestShifts", shifts, 0, 1, 3)
}

func TestConstantsOfBeats(t *testing.T) {
	want(t, "MaxBeat", impl.MaxBeat, 40)
	want(t, "MaxTargets", impl.MaxTargets, 6)
	want(t, "MaxSight", impl.MaxSight, 50)
	want(t, "MaxHours", impl.MaxHours, 48)
	want(t, "MaxWatchers", impl.MaxWatchers, 8)
}

func TestValidBeat(t *testing.T) {
	f := beatField(t)
	for name, b := range map[string]impl.Beat{
		"one cell": {0}, "one cell with a path": {1}, "the last cell": {23},
		"two cells": {0, 1}, "two cells, from north to south": {1, 11}, "standing still": {0, 0}, "standing first": {0, 0, 1}, "standing last": {0, 1, 1, 0, 0},
		"round a tree": goodBeat(), "there and back": {1, 2, 3, 2}, "there and back, with both ends": {1, 2, 3, 2, 1}, "three cells": {1, 2, 2},
		"standing MaxBeat minutes": slices.Repeat(impl.Beat{22}, 40), "MaxBeat cells": slices.Repeat(goodBeat(), 5),
		"one less than MaxBeat": slices.Repeat(impl.Beat{21, 22, 22}, 13),
	} {
		want(t, name, impl.ValidBeat(f, b), true)
	}
	for name, b := range brokenBeats() {
		want(t, name, impl.ValidBeat(f, b), false)
	}
	for name, broken := range brokenFields() {
		want(t, "a field with "+name, impl.ValidBeat(broken, impl.Beat{0}), false)
		want(t, "a field with "+name+" and no beat", impl.ValidBeat(broken, nil), false)
	}
	full := plainField(t, 10, 10)
	want(t, "from the end of a row to the next row", impl.ValidBeat(full, impl.Beat{9, 10}), false)
	want(t, "back from the next row", impl.ValidBeat(full, impl.Beat{10, 9}), false)
	want(t, "from the last row", impl.ValidBeat(full, impl.Beat{99, 89}), true)
	want(t, "to 100", impl.ValidBeat(full, impl.Beat{90, 100}), false)
}

func TestValidBeatIsAsTold(t *testing.T) {
	for _, s := range someBeatScenes() {
		want(t, "a beat", impl.ValidBeat(s.f, s.b), true)
		want(t, "a beat as told", isBeatIn(s.f, s.b), true)
		for i := range s.b {
			without := slices.Delete(slices.Clone(s.b), i, i+1)
			want(t, "a beat without a cell", impl.ValidBeat(s.f, without), isBeatIn(s.f, without))
			twice := slices.Insert(slices.Clone(s.b), i, s.b[i])
			want(t, "a beat with a cell twice", impl.ValidBeat(s.f, twice), isBeatIn(s.f, twice))
		}
	}
	for _, f := range []impl.Field{beatField(t), birdField(t), plainField(t, 10, 1), plainField(t, 1, 10)} {
		for a := int16(-12); a < 103; a++ {
			want(t, "a beat of one cell", impl.ValidBeat(f, impl.Beat{a}), canStand(f, int64(a)))
			for b := int16(-12); b < 103; b++ {
				want(t, "a beat of two cells", impl.ValidBeat(f, impl.Beat{a, b}), isBeatIn(f, impl.Beat{a, b}))
			}
		}
	}
}

func TestSameBeat(t *testing.T) {
	b := goodBeat()
	want(t, "the same", impl.SameBeat(b, goodBeat()), true)
	want(t, "nil and empty", impl.SameBeat(nil, impl.Beat{}), true)
	want(t, "empty and nil", impl.SameBeat(impl.Beat{}, nil), true)
	want(t, "none and one", impl.SameBeat(nil, impl.Beat{0}), false)
	want(t, "shorter", impl.SameBeat(b, b[:7]), false)
	want(t, "longer", impl.SameBeat(b[:7], b), false)
	want(t, "not valid", impl.SameBeat(impl.Beat{-1, 300}, impl.Beat{-1, 300}), true)
	want(t, "turned", impl.SameBeat(impl.Beat{0, 1}, impl.Beat{1, 0}), false)
	for i := range b {
		other := goodBeat()
		other[i] += 256
		want(t, "another cell", impl.SameBeat(b, other), false)
	}
	long := slices.Repeat(impl.Beat{7}, 400000)
	want(t, "long ones", impl.SameBeat(long, slices.Clone(long)), true)
	want(t, "long ones, of other lengths", impl.SameBeat(long, long[1:]), false)
}

func TestTurnBeat(t *testing.T) {
	f := beatField(t)
	for by, wanted := range map[int64]impl.Beat{
		0: goodBeat(), 1: {2, 3, 13, 23, 22, 21, 11, 1}, 5: {22, 21, 11, 1, 2, 3, 13, 23}, 7: {11, 1, 2, 3, 13, 23, 22, 21},
	} {
		turned, code := impl.TurnBeat(f, goodBeat(), by)
		wantCode(t, "TurnBeat", code, impl.OK)
		wantBeat(t, "TurnBeat", turned, wanted...)
	}
	for _, by := range []int64{8, 9, 16, 40, -1, -8, 256, math.MinInt64, math.MaxInt64} {
		turned, code := impl.TurnBeat(f, goodBeat(), by)
		wantCode(t, "TurnBeat too far", code, impl.ErrRange)
		wantBeat(t, "TurnBeat too far", turned)
	}
	turned, code := impl.TurnBeat(f, impl.Beat{22}, 0)
	wantCode(t, "one cell", code, impl.OK)
	wantBeat(t, "one cell", turned, 22)
	_, code = impl.TurnBeat(f, impl.Beat{22}, 1)
	wantCode(t, "one cell, by 1", code, impl.ErrRange)
	_, code = impl.TurnBeat(f, nil, 0)
	wantCode(t, "no cells", code, impl.ErrInvalid)
}

func TestTurnedBeatsAreAsTold(t *testing.T) {
	for _, s := range someBeatScenes() {
		for by := range s.b {
			turned, code := impl.TurnBeat(s.f, s.b, int64(by))
			wantCode(t, "TurnBeat", code, impl.OK)
			want(t, "it is valid", impl.ValidBeat(s.f, turned), true)
			for i := range turned {
				want(t, "a cell", turned[i], s.b[(i+by)%len(s.b)])
			}
			want(t, "its length", len(turned), len(s.b))
		}
		_, code := impl.TurnBeat(s.f, s.b, int64(len(s.b)))
		wantCode(t, "by all cells", code, impl.ErrRange)
	}
}

func TestBackBeat(t *testing.T) {
	f := beatField(t)
	for name, pair := range map[string][2]impl.Beat{
		"one cell":     {{22}, {22}},
		"two cells":    {{22, 23}, {22, 23}},
		"three cells":  {{22, 22, 23}, {22, 23, 22}},
		"a round":      {goodBeat(), {1, 11, 21, 22, 23, 13, 3, 2}},
		"there, back":  {{1, 2, 3, 2}, {1, 2, 3, 2}},
		"standing":     {{0, 0, 1, 11, 11, 1}, {0, 1, 11, 11, 1, 0}},
		"forth, again": {{1, 11, 21, 22, 23, 13, 3, 2}, goodBeat()},
	} {
		back, code := impl.BackBeat(f, pair[0])
		wantCode(t, name, code, impl.OK)
		wantBeat(t, name, back, pair[1]...)
	}
	for _, s := range someBeatScenes() {
		back, code := impl.BackBeat(s.f, s.b)
		wantCode(t, "BackBeat", code, impl.OK)
		want(t, "it is valid", impl.ValidBeat(s.f, back), true)
		again, code := impl.BackBeat(s.f, back)
		wantCode(t, "BackBeat twice", code, impl.OK)
		wantBeat(t, "BackBeat twice", again, s.b...)
		for i := range back {
			want(t, "a cell", back[i], s.b[(len(s.b)-i)%len(s.b)])
		}
	}
}

func TestJoinBeats(t *testing.T) {
	f := beatField(t)
	joined, code := impl.JoinBeats(f, impl.Beat{1, 0}, impl.Beat{1, 2, 3, 2})
	wantCode(t, "JoinBeats", code, impl.OK)
	wantBeat(t, "JoinBeats", joined, 1, 0, 1, 2, 3, 2)
	joined, code = impl.JoinBeats(f, impl.Beat{1, 2, 3, 2}, impl.Beat{1, 0})
	wantCode(t, "the other way round", code, impl.OK)
	wantBeat(t, "the other way round", joined, 1, 2, 3, 2, 1, 0)
	joined, code = impl.JoinBeats(f, impl.Beat{22}, impl.Beat{22})
	wantCode(t, "one cell each", code, impl.OK)
	wantBeat(t, "one cell each", joined, 22, 22)
	for _, pair := range [][2]impl.Beat{{{0}, {1}}, {{1, 0}, {0, 1}}, {goodBeat(), {2, 3}}, {{11, 1}, goodBeat()}} {
		joined, code = impl.JoinBeats(f, pair[0], pair[1])
		wantCode(t, "not from one cell", code, impl.ErrState)
		wantBeat(t, "not from one cell", joined)
	}
}

func TestJoinBeatsAtTheLimit(t *testing.T) {
	f := beatField(t)
	for length := 1; length <= 40; length++ {
		a, b := slices.Repeat(impl.Beat{1}, length), slices.Repeat(impl.Beat{1}, 40-length)
		longer := append(impl.Beat{1}, b...)
		_, code := impl.JoinBeats(f, a, longer)
		wantCode(t, "one more than MaxBeat", code, impl.ErrLimit)
		_, code = impl.JoinBeats(f, longer, a)
		wantCode(t, "one more than MaxBeat, the other way round", code, impl.ErrLimit)
		if length == 40 {
			continue
		}
		joined, code := impl.JoinBeats(f, a, b)
		wantCode(t, "MaxBeat", code, impl.OK)
		want(t, "MaxBeat", len(joined), 40)
	}
	full := slices.Repeat(goodBeat(), 5)
	_, code := impl.JoinBeats(f, full, full)
	wantCode(t, "twice MaxBeat", code, impl.ErrLimit)
	_, code = impl.JoinBeats(f, full, impl.Beat{2})
	wantCode(t, "too many, and from two cells", code, impl.ErrState)
	_, code = impl.JoinBeats(f, full, impl.Beat{12})
	wantCode(t, "too many, and from two cells, one of which is a tree", code, impl.ErrInvalid)
}

func TestJoinedBeatsAreAsTold(t *testing.T) {
	r := rand.New(rand.NewPCG(13, 14))
	for _, s := range someBeatScenes() {
		other := someBeat(r, s.f)
		joined, code := impl.JoinBeats(s.f, s.b, other)
		switch {
		case s.b[0] != other[0]:
			wantCode(t, "from two cells", code, impl.ErrState)
		case len(s.b)+len(other) > 40:
			wantCode(t, "too many", code, impl.ErrLimit)
		default:
			wantCode(t, "JoinBeats", code, impl.OK)
			wantBeat(t, "JoinBeats", joined, slices.Concat(s.b, other)...)
			want(t, "it is valid", impl.ValidBeat(s.f, joined), true)
		}
	}
}
