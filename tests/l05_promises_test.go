package tests

import (
	"math"
	"reflect"
	"runtime"
	"slices"
	"testing"

	"loop.example/g01338/impl"
)

// beatArgs are arguments of all functions of the chapter.
type beatArgs struct {
	f       impl.Field
	b       impl.Beat
	other   impl.Beat
	sight   int64
	targets impl.Cells
	cells   []int64
	need    []int64
	starts  []int64
	n, m    int64
}

// beatCall is a function with a code as its last result, and at what it looks: at a field, at a beat for it, or at two of them.
type beatCall struct {
	name  string
	looks string
	run   func(x beatArgs) []any
}

func beatCalls() []beatCall {
	return []beatCall{
		{"SeenAt", "beat", func(x beatArgs) []any { r, e := impl.SeenAt(x.f, x.b, x.sight, x.n); return all(r, e) }},
		{"SeenBy", "beat", func(x beatArgs) []any { r, e := impl.SeenBy(x.f, x.b, x.sight); return all(r, e) }},
		{"MinutesOf", "beat", func(x beatArgs) []any { r, e := impl.MinutesOf(x.f, x.b, x.sight, x.n); return all(r, e) }},
		{"GapOf", "beat", func(x beatArgs) []any { r, e := impl.GapOf(x.f, x.b, x.sight, x.n); return all(r, e) }},
		{"GapWith", "beat", func(x beatArgs) []any { r, e := impl.GapWith(x.f, x.b, x.sight, x.n, x.m); return all(r, e) }},
		{"WorstGap", "beat", func(x beatArgs) []any {
			r, s, e := impl.WorstGap(x.f, x.b, x.sight, x.targets)
			return all(r, s, e)
		}},
		{"WatchersFor", "beat", func(x beatArgs) []any {
			r, e := impl.WatchersFor(x.f, x.b, x.sight, x.targets, x.m)
			return all(r, e)
		}},
		{"TurnBeat", "beat", func(x beatArgs) []any { r, e := impl.TurnBeat(x.f, x.b, x.n); return all(r, e) }},
		{"BackBeat", "beat", func(x beatArgs) []any { r, e := impl.BackBeat(x.f, x.b); return all(r, e) }},
		{"JoinBeats", "beats", func(x beatArgs) []any { r, e := impl.JoinBeats(x.f, x.b, x.other); return all(r, e) }},
		{"WayBetween", "field", func(x beatArgs) []any { r, e := impl.WayBetween(x.f, x.n, x.m); return all(r, e) }},
		{"ShortestBeat", "field", func(x beatArgs) []any {
			r, e := impl.ShortestBeat(x.f, x.n, x.sight, x.cells)
			return all(r, e)
		}},
		{"CheckBeat", "beat", func(x beatArgs) []any { r, e := impl.CheckBeat(x.f, x.b, x.sight, x.cells); return all(r, e) }},
		{"FewestShifts", "", func(x beatArgs) []any { r, e := impl.FewestShifts(x.need, x.n); return all(r, e) }},
		{"CheckShifts", "", func(x beatArgs) []any { r, e := impl.CheckShifts(x.need, x.n, x.starts); return all(r, e) }},
		{"FirstShort", "", func(x beatArgs) []any {
			r, s, e := impl.FirstShort(x.need, x.n, x.starts)
			return all(r, s, e)
		}},
	}
}

// goodBeatArgs are in order for each function, and each one finds something.
func goodBeatArgs(t *testing.T) beatArgs {
	return beatArgs{
		f: beatField(t), b: goodBeat(), other: impl.Beat{1, 0}, sight: 1, targets: setOf(1, 10, 12), cells: []int64{3, 12, 20},
		need: []int64{1, 3, 0, 4}, starts: []int64{1, 0, 1, 1}, n: 2, m: 3,
	}
}

// someBeatArgs returns arguments that are in order, and such as are not in one way or in several.
func someBeatArgs(t *testing.T) []beatArgs {
	good := goodBeatArgs(t)
	var list []beatArgs
	with := func(how func(x *beatArgs)) {
		x := good
		how(&x)
		list = append(list, x)
	}
	with(func(x *beatArgs) {})
	with(func(x *beatArgs) { x.cells, x.need, x.starts, x.targets = nil, nil, nil, impl.Cells{} })
	with(func(x *beatArgs) { x.targets = everything() })
	with(func(x *beatArgs) { x.targets = strayBits() })
	with(func(x *beatArgs) { x.cells = []int64{0, 0, 1, 1, 2, 2, 3} })
	with(func(x *beatArgs) { x.cells = farNumbers })
	with(func(x *beatArgs) { x.starts = farNumbers })
	with(func(x *beatArgs) { x.need = farNumbers })
	with(func(x *beatArgs) { x.b, x.other = slices.Repeat(goodBeat(), 5), slices.Repeat(goodBeat(), 5) })
	with(func(x *beatArgs) { x.b, x.other = impl.Beat{1}, impl.Beat{2} })
	with(func(x *beatArgs) {
		x.f, x.sight, x.cells = plainField(t, 10, 10), 0, []int64{0, 9, 90, 99, 45, 54}
		x.need, x.starts = slices.Repeat([]int64{20}, 48), slices.Repeat([]int64{47}, 500)
	})
	with(func(x *beatArgs) { x.f = someFields()[99] })
	for _, sight := range []int64{math.MinInt64, -1, 0, 2, 50, 51, 200, 201, math.MaxInt64} {
		with(func(x *beatArgs) { x.sight = sight })
	}
	for _, f := range brokenFields() {
		with(func(x *beatArgs) { x.f = f })
		with(func(x *beatArgs) { x.f, x.b, x.other, x.sight, x.cells = f, impl.Beat{0}, nil, -1, farNumbers })
	}
	for _, b := range brokenBeats() {
		if len(b) < 10000 {
			with(func(x *beatArgs) { x.b = b })
			with(func(x *beatArgs) { x.other = b })
		}
	}
	return list
}

// P1: functions return for all arguments, with equal results for equal ones, and with zero values beside an error.
func TestP1BeatCallsReturn(t *testing.T) {
	numbers := []int64{math.MinInt64, -65536, -1, 0, 1, 2, 3, 8, 9, 12, 23, 40, 41, 48, 49, 99, 100, 65537, math.MaxInt64}
	for _, call := range beatCalls() {
		for _, x := range someBeatArgs(t) {
			for _, x.n = range numbers {
				for _, x.m = range []int64{math.MinInt64, 0, 1, 2, 8, 9, 40, 41, math.MaxInt64} {
					checkTwice(t, call.name, x, func() []any { return call.run(x) })
				}
			}
		}
	}
}

// P1: functions without a code return for all arguments, too.
func TestP1BeatsWithoutCodes(t *testing.T) {
	for _, x := range someBeatArgs(t) {
		want(t, "ValidBeat", impl.ValidBeat(x.f, x.b), impl.ValidBeat(x.f, x.b))
		want(t, "SameBeat", impl.SameBeat(x.b, x.other), impl.SameBeat(x.b, x.other))
		want(t, "BeatText", impl.BeatText(x.b), impl.BeatText(x.b))
	}
	for _, b := range brokenBeats() {
		want(t, "SameBeat", impl.SameBeat(b, slices.Clone(b)), true)
	}
}

// wantInvalidBeats expects ErrInvalid, whatever else is wrong with the other arguments.
func wantInvalidBeats(t *testing.T, call beatCall, name string, x beatArgs) {
	t.Helper()
	for _, x.n = range []int64{0, 2, 99, -1} {
		for _, x.m = range []int64{1, 0, 41} {
			for _, x.sight = range []int64{0, -1, 51} {
				for _, x.cells = range [][]int64{{0}, {99}, {0, 0, 0, 0, 0, 0, 0}} {
					results := call.run(x)
					want(t, call.name+" with "+name, results[len(results)-1], any(int64(impl.ErrInvalid)))
				}
			}
		}
	}
}

// P1, Validity: ErrInvalid comes before all other errors, for all that is not valid.
func TestP1InvalidBeatsAreRefused(t *testing.T) {
	for _, call := range beatCalls() {
		for name, f := range brokenFields() {
			if call.looks != "" {
				x := goodBeatArgs(t)
				x.f, x.b, x.other = f, impl.Beat{0}, impl.Beat{0}
				wantInvalidBeats(t, call, name, x)
			}
		}
		for name, b := range brokenBeats() {
			x := goodBeatArgs(t)
			if x.b = b; call.looks == "beat" || call.looks == "beats" {
				wantInvalidBeats(t, call, name, x)
			}
			if x.b, x.other = goodBeat(), b; call.looks == "beats" {
				wantInvalidBeats(t, call, name+" as the second beat", x)
				x.b = slices.Repeat(goodBeat(), 5)
				wantInvalidBeats(t, call, name+" as the second beat, behind a long one", x)
			}
		}
	}
}

// P1, Purity: no argument is modified, nor the unused capacity of a slice.
func TestP1BeatsAndListsStay(t *testing.T) {
	x := goodBeatArgs(t)
	b, other := append(goodBeat(), 1, 2, -7), impl.Beat{1, 0, 1, -7, 300, 99}
	cells, need, starts := []int64{3, 12, 20, 1, 99, -7}, []int64{1, 3, 0, 4, 2, -7}, []int64{1, 0, 1, 1, 0, 1, -7}
	copies := func() []any {
		return all(slices.Clone(b), slices.Clone(other), slices.Clone(cells), slices.Clone(need), slices.Clone(starts))
	}
	before := copies()
	for _, length := range []int{1, 2, 8, 9} {
		for count := range 5 {
			x.b, x.other = b[:length], other[:min(count, 3)]
			x.cells, x.need, x.starts = cells[:count], need[:count], starts[:count]
			for _, call := range beatCalls() {
				for _, x.n = range []int64{0, 1, 2, 7} {
					for _, x.m = range []int64{0, 1, 3, 8} {
						call.run(x)
					}
				}
			}
			impl.ValidBeat(x.f, x.b)
			impl.SameBeat(x.b, x.other)
			impl.BeatText(x.b)
			want(t, "arguments", copies(), before)
		}
	}
}

// P1, Purity: lists that are returned share memory neither with an argument nor with each other.
func TestP1BeatListsAreNew(t *testing.T) {
	for _, call := range beatCalls() {
		for _, n := range []int64{0, 1, 2} {
			x, before := goodBeatArgs(t), goodBeatArgs(t)
			x.n, before.n = n, n
			first, second, third := call.run(x), call.run(x), call.run(x)
			if n > 0 {
				want(t, call.name, first[len(first)-1], any(int64(impl.OK)))
			}
			for _, result := range first {
				if v := reflect.ValueOf(result); v.Kind() == reflect.Slice && n > 0 {
					want(t, call.name+" has a list", v.Len() > 0, true)
				}
				wearAny(result)
			}
			want(t, call.name, second, third)
			want(t, call.name+", again", call.run(x), third)
			want(t, call.name+", its arguments", x, before)
		}
	}
	one, _ := impl.ReadBeat("1 2 3 2")
	two, _ := impl.ReadBeat("1 2 3 2")
	wearAny(one)
	wantBeat(t, "ReadBeat", two, 1, 2, 3, 2)
}

// P1: beats that are turned by nothing, or joined, are lists of their own, and so is the memory behind them.
func TestP1TurnedAndJoinedBeatsAreApart(t *testing.T) {
	f := beatField(t)
	backing := append(goodBeat(), slices.Repeat(impl.Beat{1}, 40)...)
	before := slices.Clone(backing)
	for length := range 33 {
		b := backing[:length]
		if !impl.ValidBeat(f, b) {
			continue
		}
		for by := range int64(length) {
			turned, code := impl.TurnBeat(f, b, by)
			wantCode(t, "TurnBeat", code, impl.OK)
			wearAny(turned)
		}
		back, code := impl.BackBeat(f, b)
		wantCode(t, "BackBeat", code, impl.OK)
		wearAny(back)
		joined, code := impl.JoinBeats(f, b, backing[:8])
		wantCode(t, "JoinBeats", code, impl.OK)
		wearAny(joined)
		wantBeat(t, "the beat, and what is behind it", backing, before...)
	}
}

// P1: goroutines that are started have come to their end, and their order is never seen.
func TestP1WatchersAreJoined(t *testing.T) {
	before := runtime.NumGoroutine()
	f, b := plainField(t, 10, 10), slices.Repeat(impl.Beat{0, 1, 2, 3, 13, 12, 11, 10}, 5)
	for range 300 {
		watchers, code := impl.WatchersFor(f, b, 1, setOf(0, 1, 2, 3, 13, 20), 2)
		want(t, "WatchersFor", [2]int64{watchers, code}, [2]int64{4, impl.OK})
	}
	wantJoined(t, before)
}

// wantJoined expects that no more goroutines are left than there were before.
func wantJoined(t *testing.T, before int) {
	t.Helper()
	for range 100000 {
		if runtime.NumGoroutine() <= before {
			return
		}
		runtime.Gosched()
	}
	t.Errorf("%d goroutines, and then %d", before, runtime.NumGoroutine())
}
