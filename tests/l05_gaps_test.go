package tests

import (
	"math"
	"slices"
	"testing"

	"loop.example/g01338/impl"
)

func TestSeenAt(t *testing.T) {
	f, b := beatField(t), goodBeat()
	for _, c := range []struct {
		sight, minute int64
		seen          []int64
	}{
		{0, 0, []int64{1}}, {0, 7, []int64{11}}, {0, 3, []int64{13}},
		{1, 0, []int64{0, 1, 2, 11}}, {1, 7, []int64{1, 10, 11, 12, 21}}, {2, 4, []int64{12, 13, 22, 23}},
		{9, 0, []int64{0, 1, 2, 3, 10, 11, 12, 13, 20, 21, 22, 23}},
	} {
		seen, code := impl.SeenAt(f, b, c.sight, c.minute)
		wantCode(t, "SeenAt", code, impl.OK)
		wantList(t, "SeenAt", impl.ListOf(seen), c.seen...)
	}
	for _, minute := range []int64{-1, 8, 9, 16, 39, 40, -8, 256, math.MinInt64, math.MaxInt64} {
		seen, code := impl.SeenAt(f, b, 1, minute)
		wantCode(t, "no minute", code, impl.ErrRange)
		want(t, "no minute", seen, impl.Cells{})
	}
	long := slices.Repeat(goodBeat(), 5)
	last, code := impl.SeenAt(f, long, 0, 39)
	wantCode(t, "the last minute of MaxBeat", code, impl.OK)
	want(t, "the last minute of MaxBeat", last, setOf(11))
	_, code = impl.SeenAt(f, long, 0, 40)
	wantCode(t, "the minute behind it", code, impl.ErrRange)
	one, code := impl.SeenAt(f, impl.Beat{22}, 0, 0)
	wantCode(t, "one cell", code, impl.OK)
	want(t, "one cell", one, setOf(22))
	_, code = impl.SeenAt(f, impl.Beat{22}, 0, 1)
	wantCode(t, "the minute behind one cell", code, impl.ErrRange)
	large := plainField(t, 10, 10)
	ring, code := impl.SeenAt(large, impl.Beat{0}, 50, 0)
	wantCode(t, "MaxSight", code, impl.OK)
	want(t, "MaxSight sees 5, 5", isIn(ring, 55), true)
	want(t, "MaxSight sees 7, 1", isIn(ring, 17), true)
	want(t, "MaxSight does not see 6, 4", isIn(ring, 46), false)
}

func TestSeenIsAsTold(t *testing.T) {
	for _, s := range someBeatScenes() {
		want := func(name string, seen impl.Cells, sees func(n int64) bool) {
			t.Helper()
			for n := range int64(100) {
				if isIn(seen, n) != sees(n) {
					t.Errorf("%s: %v with the sight %d: %d is seen wrongly", name, s.b, s.sight, n)
				}
			}
			if seen[1]&strayBits()[1] != 0 {
				t.Errorf("%s: bits greater than 99", name)
			}
		}
		for minute, from := range s.b {
			seen, code := impl.SeenAt(s.f, s.b, s.sight, int64(minute))
			wantCode(t, "SeenAt", code, impl.OK)
			want("SeenAt", seen, func(n int64) bool { return isSeenFrom(s.f, from, s.sight, n) })
			ring, _ := impl.RingOf(s.f, int64(from), s.sight)
			want("RingOf", seen, func(n int64) bool { return isIn(ring, n) })
		}
		seen, code := impl.SeenBy(s.f, s.b, s.sight)
		wantCode(t, "SeenBy", code, impl.OK)
		want("SeenBy", seen, func(n int64) bool { return len(minutesIn(s, n)) > 0 })
	}
}

func TestSeenBy(t *testing.T) {
	f := beatField(t)
	seen, code := impl.SeenBy(f, goodBeat(), 0)
	wantCode(t, "SeenBy", code, impl.OK)
	want(t, "the cells of the beat", seen, setOf(1, 2, 3, 11, 13, 21, 22, 23))
	seen, code = impl.SeenBy(f, goodBeat(), 1)
	wantCode(t, "SeenBy with sight 1", code, impl.OK)
	want(t, "hedges and trees, too", seen, setOf(0, 1, 2, 3, 10, 11, 12, 13, 20, 21, 22, 23))
	seen, code = impl.SeenBy(f, impl.Beat{0}, 1)
	wantCode(t, "SeenBy of one cell", code, impl.OK)
	want(t, "one cell", seen, setOf(0, 1, 10))
}

func TestMinutesOf(t *testing.T) {
	f := beatField(t)
	for _, c := range []struct {
		b           impl.Beat
		sight, cell int64
		minutes     []int64
	}{
		{goodBeat(), 0, 1, []int64{0}}, {goodBeat(), 0, 11, []int64{7}}, {goodBeat(), 0, 0, nil}, {goodBeat(), 0, 12, nil},
		{goodBeat(), 1, 0, []int64{0}}, {goodBeat(), 1, 12, []int64{1, 3, 5, 7}}, {goodBeat(), 1, 1, []int64{0, 1, 7}}, {goodBeat(), 1, 10, []int64{7}},
		{goodBeat(), 2, 12, []int64{0, 1, 2, 3, 4, 5, 6, 7}}, {goodBeat(), 2, 10, []int64{0, 6, 7}},
		{impl.Beat{22}, 0, 22, []int64{0}}, {impl.Beat{22}, 0, 23, nil}, {impl.Beat{22, 22, 23, 23, 22}, 0, 22, []int64{0, 1, 4}},
	} {
		minutes, code := impl.MinutesOf(f, c.b, c.sight, c.cell)
		wantCode(t, "MinutesOf", code, impl.OK)
		wantList(t, "MinutesOf", minutes, c.minutes...)
	}
	for _, s := range someBeatScenes() {
		for n := range int64(100) {
			minutes, code := impl.MinutesOf(s.f, s.b, s.sight, n)
			if !isCell(s.f, n) {
				wantCode(t, "MinutesOf no cell", code, impl.ErrRange)
				continue
			}
			wantCode(t, "MinutesOf", code, impl.OK)
			wantList(t, "MinutesOf", minutes, minutesIn(s, n)...)
		}
	}
}

func TestGapOf(t *testing.T) {
	f := beatField(t)
	for _, c := range []struct {
		name             string
		b                impl.Beat
		sight, cell, gap int64
	}{
		{"once, in the first minute", goodBeat(), 0, 1, 8},
		{"once, in the last minute", goodBeat(), 0, 11, 8},
		{"once, on one cell", impl.Beat{22}, 0, 22, 1},
		{"once, on two cells", impl.Beat{22, 23}, 0, 22, 2},
		{"in each minute", goodBeat(), 2, 12, 1},
		{"in each minute, on one cell", impl.Beat{0}, 1, 10, 1},
		{"in the last minute and the first ones", goodBeat(), 1, 1, 6},
		{"in the last minute and the first one", impl.Beat{0, 1, 2, 1, 0}, 0, 0, 4},
		{"in the first minutes", impl.Beat{0, 0, 0, 1, 2, 1}, 0, 0, 4},
		{"in the last minutes", impl.Beat{1, 2, 1, 0, 0, 0}, 0, 0, 4},
		{"the greatest gap goes over the last minute", impl.Beat{1, 0, 1, 0, 1, 2, 1, 2}, 0, 0, 6},
		{"the greatest gap is in between", impl.Beat{0, 1, 2, 2, 1, 0}, 0, 0, 5},
		{"the greatest gap comes first", impl.Beat{0, 1, 2, 1, 0, 1}, 0, 0, 4},
		{"each second minute", goodBeat(), 1, 12, 2},
		{"a hedge, once", goodBeat(), 1, 10, 8},
		{"MaxBeat", slices.Concat(slices.Repeat(impl.Beat{0}, 39), impl.Beat{1}), 0, 1, 40},
		{"MaxBeat, in each minute but one", slices.Concat(slices.Repeat(impl.Beat{0}, 39), impl.Beat{1}), 0, 0, 2},
	} {
		gap, code := impl.GapOf(f, c.b, c.sight, c.cell)
		wantCode(t, c.name, code, impl.OK)
		want(t, c.name, gap, c.gap)
	}
	for _, cell := range []int64{0, 10, 12, 20} {
		gap, code := impl.GapOf(f, goodBeat(), 0, cell)
		wantCode(t, "never seen", code, impl.ErrNotFound)
		want(t, "never seen", gap, 0)
	}
}

func TestGapWith(t *testing.T) {
	f, row := beatField(t), plainField(t, 10, 1)
	// The beat has 7 minutes; watchers are ahead by 3, and by 2 and 4.
	odd := impl.Beat{0, 1, 2, 3, 3, 2, 1}
	for _, c := range []struct {
		f                          impl.Field
		b                          impl.Beat
		sight, cell, watchers, gap int64
	}{
		{f, goodBeat(), 0, 1, 1, 8}, {f, goodBeat(), 0, 1, 2, 4}, {f, goodBeat(), 0, 1, 3, 3}, {f, goodBeat(), 0, 1, 4, 2}, {f, goodBeat(), 0, 1, 5, 2}, {f, goodBeat(), 0, 1, 8, 1},
		{f, goodBeat(), 1, 1, 2, 2}, {f, goodBeat(), 1, 12, 2, 2}, {f, goodBeat(), 1, 12, 8, 1}, {f, goodBeat(), 1, 12, 3, 1},
		{row, odd, 0, 0, 1, 7}, {row, odd, 0, 0, 2, 4}, {row, odd, 0, 0, 3, 3}, {row, odd, 0, 3, 2, 3},
		{f, impl.Beat{22}, 0, 22, 8, 1}, {f, impl.Beat{22, 23}, 0, 23, 8, 1}, {f, impl.Beat{22, 23}, 0, 22, 2, 1}, {f, impl.Beat{22, 22, 23}, 0, 23, 8, 1}, {f, impl.Beat{22, 22, 23}, 0, 23, 2, 2},
	} {
		gap, code := impl.GapWith(c.f, c.b, c.sight, c.cell, c.watchers)
		wantCode(t, "GapWith", code, impl.OK)
		want(t, "GapWith", gap, c.gap)
	}
	for _, watchers := range []int64{0, 9, -1, -8, 10, 257, math.MinInt64, math.MaxInt64} {
		for _, cell := range []int64{1, 20} {
			gap, code := impl.GapWith(f, goodBeat(), 0, cell, watchers)
			wantCode(t, "no number of watchers", code, impl.ErrRange)
			want(t, "no number of watchers", gap, 0)
		}
	}
	for watchers := int64(1); watchers <= 8; watchers++ {
		_, code := impl.GapWith(f, goodBeat(), 0, 20, watchers)
		wantCode(t, "never seen by several", code, impl.ErrNotFound)
	}
}

// P10: gaps are as told, and with more watchers no gap is greater than with one.
func TestP10NoGapIsGreaterWithMoreWatchers(t *testing.T) {
	for _, s := range someBeatScenes() {
		for n := range int64(100) {
			one, code := impl.GapOf(s.f, s.b, s.sight, n)
			wanted := int64(impl.OK)
			if !isCell(s.f, n) {
				wanted = impl.ErrRange
			} else if len(minutesIn(s, n)) == 0 {
				wanted = impl.ErrNotFound
			}
			wantCode(t, "GapOf", code, wanted)
			for watchers := int64(1); watchers <= 8; watchers++ {
				gap, code := impl.GapWith(s.f, s.b, s.sight, n, watchers)
				wantCode(t, "GapWith", code, wanted)
				want(t, "with more watchers the gap is greater", gap > one, false)
				if gap != gapIn(s, n, watchers) {
					t.Errorf("%v with the sight %d, %d with %d watchers: got %d, want %d", s.b, s.sight, n, watchers, gap, gapIn(s, n, watchers))
				}
			}
			if wanted == impl.OK {
				want(t, "GapOf", one, gapIn(s, n, 1))
			}
		}
	}
}

// P10: so it is with the greatest gap of several targets; and watchers that are enough for it are told.
func TestP10WatchersAreEnough(t *testing.T) {
	for _, s := range someBeatScenes() {
		_, gap, code := impl.WorstGap(s.f, s.b, s.sight, s.targets)
		for most := int64(1); most <= 40; most++ {
			watchers, needed := impl.WatchersFor(s.f, s.b, s.sight, s.targets, most)
			if code == impl.OK && gap <= most {
				wantCode(t, "one is enough", needed, impl.OK)
				want(t, "one is enough", watchers, 1)
			}
			if needed != impl.OK {
				continue
			}
			for _, n := range targetsIn(s.targets) {
				if isCell(s.f, n) {
					with, code := impl.GapWith(s.f, s.b, s.sight, n, watchers)
					wantCode(t, "GapWith", code, impl.OK)
					want(t, "a greater gap", with > most, false)
				}
			}
		}
	}
}

// A beat that is turned or walked backward has the same gaps.
func TestTurnedBeatsHaveTheSameGaps(t *testing.T) {
	for _, s := range someBeatScenes() {
		back, _ := impl.BackBeat(s.f, s.b)
		turned, _ := impl.TurnBeat(s.f, s.b, int64(len(s.b)/3))
		last, _ := impl.TurnBeat(s.f, s.b, int64(len(s.b)-1))
		for n := range int64(100) {
			for watchers := int64(1); watchers <= 8; watchers += 1 + n%3 {
				gap, code := impl.GapWith(s.f, s.b, s.sight, n, watchers)
				for _, other := range []impl.Beat{back, turned, last} {
					same, again := impl.GapWith(s.f, other, s.sight, n, watchers)
					wantCode(t, "GapWith", again, code)
					want(t, "GapWith", same, gap)
				}
			}
		}
	}
}

func TestWorstGap(t *testing.T) {
	f := beatField(t)
	for _, c := range []struct {
		name       string
		b          impl.Beat
		sight      int64
		targets    impl.Cells
		worst, gap int64
	}{
		{"one target", goodBeat(), 0, setOf(13), 13, 8},
		{"the least one of all", goodBeat(), 0, setOf(23, 22, 3), 3, 8},
		{"the greater gap", goodBeat(), 1, setOf(1, 12, 13), 1, 6},
		{"the greater gap, greater number", goodBeat(), 1, setOf(12, 20), 20, 8},
		{"a hedge", goodBeat(), 1, setOf(1, 10, 12), 10, 8},
		{"numbers that are no cells", goodBeat(), 1, setOf(4, 9, 12, 14, 24, 30, 33, 99), 12, 2},
		{"bits greater than 99", goodBeat(), 1, withStrays(setOf(12)), 12, 2},
		{"all cells", goodBeat(), 1, everything(), 0, 8},
		{"one cell", impl.Beat{22}, 0, setOf(22), 22, 1},
		{"a gap over the last minute", impl.Beat{1, 0, 1, 0, 1, 2, 1, 2}, 0, setOf(0, 1), 0, 6},
	} {
		worst, gap, code := impl.WorstGap(f, c.b, c.sight, c.targets)
		wantCode(t, c.name, code, impl.OK)
		want(t, c.name, [2]int64{worst, gap}, [2]int64{c.worst, c.gap})
	}
	for name, targets := range noTargets() {
		worst, gap, code := impl.WorstGap(f, goodBeat(), 0, targets)
		wantCode(t, name, code, impl.ErrNotFound)
		want(t, name, [2]int64{worst, gap}, [2]int64{})
	}
}

// noTargets are sets that have no cells of beatField, or such as are never seen with sight 0.
func noTargets() map[string]impl.Cells {
	return map[string]impl.Cells{
		"no targets": {}, "only bits greater than 99": strayBits(), "only numbers that are no cells": setOf(4, 9, 30, 99),
		"never seen": setOf(20), "a hedge that is never seen": setOf(1, 10), "the first one is never seen": setOf(0, 1), "the last one is never seen": setOf(1, 2, 3, 20),
		"a tree that is never seen": setOf(1, 12), "all cells": everything(),
	}
}

func TestWatchersFor(t *testing.T) {
	f := beatField(t)
	for _, c := range []struct {
		name                  string
		b                     impl.Beat
		sight                 int64
		targets               impl.Cells
		most, watchers, wrong int64
	}{
		{"in each minute", goodBeat(), 2, setOf(12), 1, 1, 0},
		{"one is enough", goodBeat(), 0, setOf(1), 8, 1, 0},
		{"one is not quite enough", goodBeat(), 0, setOf(1), 7, 2, 0},
		{"two are enough", goodBeat(), 0, setOf(1, 23), 4, 2, 0},
		{"three are enough", goodBeat(), 0, setOf(1, 23), 3, 3, 0},
		{"four are enough", goodBeat(), 0, setOf(1, 23), 2, 4, 0},
		{"eight are enough", goodBeat(), 0, setOf(1, 23), 1, 8, 0},
		{"most of MaxBeat", slices.Repeat(goodBeat(), 5), 0, setOf(1), 40, 1, 0},
		{"MaxBeat minutes", slices.Concat(slices.Repeat(impl.Beat{0}, 39), impl.Beat{1}), 0, setOf(1), 40, 1, 0},
		{"one less", slices.Concat(slices.Repeat(impl.Beat{0}, 39), impl.Beat{1}), 0, setOf(1), 39, 2, 0},
		{"MaxWatchers", slices.Concat(slices.Repeat(impl.Beat{0}, 39), impl.Beat{1}), 0, setOf(1), 5, 8, 0},
		{"MaxWatchers are not enough", slices.Concat(slices.Repeat(impl.Beat{0}, 39), impl.Beat{1}), 0, setOf(1), 4, 0, impl.ErrNotFound},
		{"MaxWatchers are never enough", slices.Concat(slices.Repeat(impl.Beat{0}, 39), impl.Beat{1}), 0, setOf(1), 1, 0, impl.ErrNotFound},
		{"numbers that are no cells", goodBeat(), 0, setOf(1, 4, 99), 4, 2, 0},
		{"bits greater than 99", goodBeat(), 0, withStrays(setOf(1)), 4, 2, 0},
		{"more watchers than cells", impl.Beat{22, 23}, 0, setOf(23), 1, 2, 0},
		{"one cell", impl.Beat{22}, 0, setOf(22), 1, 1, 0},
		{"most of 0", goodBeat(), 2, setOf(12), 0, 0, impl.ErrRange},
		{"most of 41", goodBeat(), 2, setOf(12), 41, 0, impl.ErrRange},
		{"most of -1", goodBeat(), 2, setOf(12), -1, 0, impl.ErrRange},
		{"most of 257", goodBeat(), 2, setOf(12), 257, 0, impl.ErrRange},
	} {
		watchers, code := impl.WatchersFor(f, c.b, c.sight, c.targets, c.most)
		wantCode(t, c.name, code, c.wrong)
		want(t, c.name, watchers, c.watchers)
	}
	for name, targets := range noTargets() {
		for _, most := range []int64{1, 8, 40} {
			watchers, code := impl.WatchersFor(f, goodBeat(), 0, targets, most)
			wantCode(t, name, code, impl.ErrNotFound)
			want(t, name, watchers, 0)
		}
		for _, most := range []int64{0, 41, math.MinInt64, math.MaxInt64} {
			_, code := impl.WatchersFor(f, goodBeat(), 0, targets, most)
			wantCode(t, name+", and no most", code, impl.ErrRange)
		}
	}
}

func TestWorstGapsAreAsTold(t *testing.T) {
	for _, s := range someBeatScenes() {
		worst, gap, code := impl.WorstGap(s.f, s.b, s.sight, s.targets)
		wantWorst, wantGap, wanted := worstIn(s, 1)
		want(t, "WorstGap", [3]int64{worst, gap, code}, [3]int64{wantWorst, wantGap, wanted})
		for _, most := range []int64{1, 2, 3, 4, 5, 7, 9, 12, 20, 40} {
			watchers, code := impl.WatchersFor(s.f, s.b, s.sight, s.targets, most)
			wantWatchers, wanted := watchersIn(s, most)
			want(t, "WatchersFor", [2]int64{watchers, code}, [2]int64{wantWatchers, wanted})
		}
	}
}

// sightCalls are the functions with a sight, and the code of them for some cell.
func sightCalls() map[string]func(f impl.Field, b impl.Beat, sight, cell int64) int64 {
	return map[string]func(f impl.Field, b impl.Beat, sight, cell int64) int64{
		"SeenAt": func(f impl.Field, b impl.Beat, sight, _ int64) int64 { _, e := impl.SeenAt(f, b, sight, 0); return e },
		"SeenBy": func(f impl.Field, b impl.Beat, sight, _ int64) int64 { _, e := impl.SeenBy(f, b, sight); return e },
		"MinutesOf": func(f impl.Field, b impl.Beat, sight, n int64) int64 {
			_, e := impl.MinutesOf(f, b, sight, n)
			return e
		},
		"GapOf": func(f impl.Field, b impl.Beat, sight, n int64) int64 { _, e := impl.GapOf(f, b, sight, n); return e },
		"GapWith": func(f impl.Field, b impl.Beat, sight, n int64) int64 {
			_, e := impl.GapWith(f, b, sight, n, 2)
			return e
		},
		"WorstGap": func(f impl.Field, b impl.Beat, sight, _ int64) int64 {
			_, _, e := impl.WorstGap(f, b, sight, everything())
			return e
		},
		"WatchersFor": func(f impl.Field, b impl.Beat, sight, _ int64) int64 {
			_, e := impl.WatchersFor(f, b, sight, everything(), 1)
			return e
		},
		"CheckBeat": func(f impl.Field, b impl.Beat, sight, n int64) int64 {
			_, e := impl.CheckBeat(f, b, sight, []int64{0, n})
			return e
		},
		"ShortestBeat": func(f impl.Field, b impl.Beat, sight, n int64) int64 {
			if !impl.ValidBeat(f, b) {
				return impl.ErrInvalid
			}
			_, e := impl.ShortestBeat(f, int64(b[0]), sight, []int64{n})
			return e
		},
	}
}

// Sights up to MaxSight only are allowed, though rings may be larger.
func TestSights(t *testing.T) {
	f, b := beatField(t), goodBeat()
	for name, call := range sightCalls() {
		for sight := int64(-260); sight <= 260; sight++ {
			want(t, name+" with a sight", call(f, b, sight, 1) == impl.ErrRange, sight < 0 || sight > 50)
			wantCode(t, name+" with a sight, and no beat", call(f, impl.Beat{0, 2}, sight, 1), impl.ErrInvalid)
		}
		for _, sight := range []int64{math.MinInt64, 1 << 32, math.MaxInt64} {
			wantCode(t, name+" with a far sight", call(f, b, sight, 1), impl.ErrRange)
			wantCode(t, name+" with a far sight, and no cell", call(f, b, sight, 99), impl.ErrRange)
		}
	}
	for _, name := range []string{"MinutesOf", "GapOf", "GapWith", "CheckBeat", "ShortestBeat"} {
		for _, n := range farNumbers {
			want(t, name+" with a cell", sightCalls()[name](f, b, 50, n) == impl.ErrRange, !isCell(f, n))
		}
	}
}
