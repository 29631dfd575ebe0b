package tests

import (
	"math"
	"reflect"
	"slices"
	"testing"

	"loop.example/g01338/impl"
)

// birdArgs are arguments of all functions of the chapter; those with one flock get the first one of the list.
type birdArgs struct {
	f      impl.Field
	fears  impl.Fears
	list   []impl.Flock
	visits []impl.Visit
	a, b   int64
}

func (x birdArgs) one() impl.Flock {
	if len(x.list) == 0 {
		return impl.Flock{Tree: 10}
	}
	return x.list[0]
}

// birdCall is a function with a code as its last result, and whether it looks at fears, at one flock, or at a list.
type birdCall struct {
	name             string
	fears, one, list bool
	run              func(x birdArgs) []any
}

func birdCalls() []birdCall {
	return []birdCall{
		{"TreeFor", false, false, false, func(x birdArgs) []any { r, e := impl.TreeFor(x.f, x.a); return all(r, e) }},
		{"CellsFor", true, true, false, func(x birdArgs) []any { r, e := impl.CellsFor(x.f, x.fears, x.one()); return all(r, e) }},
		{"ChoiceOf", true, true, false, func(x birdArgs) []any { r, e := impl.ChoiceOf(x.f, x.fears, x.one()); return all(r, e) }},
		{"HungerOf", false, true, false, func(x birdArgs) []any { r, e := impl.HungerOf(x.f, x.one()); return all(r, e) }},
		{"EatOnce", true, true, false, func(x birdArgs) []any {
			r, s, e := impl.EatOnce(x.f, x.fears, x.one())
			return all(r, s, e)
		}},
		{"FeedFlock", true, true, false, func(x birdArgs) []any {
			r, s, e := impl.FeedFlock(x.f, x.fears, x.one())
			return all(r, s, e)
		}},
		{"FeedAll", true, false, true, func(x birdArgs) []any {
			r, s, e := impl.FeedAll(x.f, x.fears, x.list)
			return all(r, s, e)
		}},
		{"FeedDays", true, false, true, func(x birdArgs) []any {
			r, s, e := impl.FeedDays(x.f, x.fears, x.list, x.a)
			return all(r, s, e)
		}},
		{"EatenBy", false, false, true, func(x birdArgs) []any { r, e := impl.EatenBy(x.f, x.list, x.visits); return all(r, e) }},
		{"StillHungry", true, false, true, func(x birdArgs) []any {
			r, e := impl.StillHungry(x.f, x.fears, x.list)
			return all(r, e)
		}},
		{"MoveFlock", false, false, true, func(x birdArgs) []any {
			r, e := impl.MoveFlock(x.f, x.list, x.a, x.b)
			return all(r, e)
		}},
		{"SplitFlock", false, false, true, func(x birdArgs) []any {
			r, e := impl.SplitFlock(x.f, x.list, x.a, x.b)
			return all(r, e)
		}},
		{"BirdsIn", false, false, true, func(x birdArgs) []any { r, e := impl.BirdsIn(x.f, x.list); return all(r, e) }},
		{"SafeFrom", true, false, true, func(x birdArgs) []any { r, e := impl.SafeFrom(x.f, x.fears, x.list); return all(r, e) }},
	}
}

// wrongVisits have flocks that are none, and seeds less than 0.
func wrongVisits() []impl.Visit {
	return []impl.Visit{{Flock: -1, Seeds: -1}, {Flock: 127, Seeds: -1}}
}

// someBirdArgs returns arguments that are valid, and such as are not valid in one way or in several.
func someBirdArgs(t *testing.T) []birdArgs {
	f, good := birdField(t), goodFlock()
	list := []birdArgs{
		{f: f},
		{f: f, list: []impl.Flock{good}, visits: []impl.Visit{visited(0, 2, 5), visited(0, 0, 1)}},
		{f: f, list: flocksOf(good, 12), visits: wrongVisits()},
		{f: f, list: flocksOf(good, 13)},
		{f: f, fears: fearsWith(2, 6), list: []impl.Flock{{Tree: 3}, good}},
		{f: someFields()[99], visits: wrongVisits()},
	}
	for _, broken := range brokenFields() {
		list = append(list, birdArgs{f: broken, list: []impl.Flock{good}}, birdArgs{f: broken})
	}
	for _, broken := range brokenFears() {
		list = append(list, birdArgs{f: f, fears: broken, list: []impl.Flock{good}})
	}
	for _, broken := range brokenFlocks() {
		list = append(list, birdArgs{f: f, list: []impl.Flock{broken, good}, visits: wrongVisits()})
	}
	return list
}

// P1: functions return for all arguments, with equal results for equal ones, and with zero values beside an error.
func TestP1BirdCallsReturn(t *testing.T) {
	numbers := []int64{math.MinInt64, -65536, -1, 0, 1, 2, 3, 10, 11, 12, 60, 61, 99, 100, 65536, math.MaxInt64}
	for _, call := range birdCalls() {
		for _, x := range someBirdArgs(t) {
			for _, x.a = range numbers {
				for _, x.b = range numbers {
					checkTwice(t, call.name, x, func() []any { return call.run(x) })
				}
			}
		}
	}
}

// wantInvalid expects ErrInvalid, whatever else is wrong with the other arguments.
func wantInvalid(t *testing.T, call birdCall, name string, x birdArgs) {
	t.Helper()
	for _, n := range []int64{0, 10, -1, 61, math.MaxInt64} {
		x.a, x.b = n, n
		for _, x.visits = range [][]impl.Visit{nil, wrongVisits()} {
			results := call.run(x)
			want(t, call.name+" with "+name, results[len(results)-1], any(int64(impl.ErrInvalid)))
		}
	}
}

// P1, Validity: ErrInvalid comes before all other errors, for all that is not valid.
func TestP1InvalidBirdsAreRefused(t *testing.T) {
	f, good := birdField(t), goodFlock()
	for _, call := range birdCalls() {
		for name, broken := range brokenFields() {
			wantInvalid(t, call, name, birdArgs{f: broken})
			wantInvalid(t, call, name+" and a flock", birdArgs{f: broken, list: []impl.Flock{good}})
		}
		for name, broken := range brokenFears() {
			if call.fears {
				wantInvalid(t, call, name, birdArgs{f: f, fears: broken})
				wantInvalid(t, call, name+" and a flock", birdArgs{f: f, fears: broken, list: []impl.Flock{good}})
			}
		}
		for name, broken := range brokenFlocks() {
			if call.one || call.list {
				wantInvalid(t, call, name, birdArgs{f: f, list: []impl.Flock{broken, good}})
			}
			if call.list {
				wantInvalid(t, call, name+", last", birdArgs{f: f, list: []impl.Flock{good, broken}})
			}
		}
		if call.list {
			wantInvalid(t, call, "too many flocks", birdArgs{f: f, list: flocksOf(good, 13)})
		}
	}
}

// P1, Validity: what a function is not given need not be valid for it.
func TestP1OtherFlocksAreNotLookedAt(t *testing.T) {
	f := birdField(t)
	for _, call := range birdCalls() {
		if !call.list {
			x := birdArgs{f: f, list: flocksOf(goodFlock(), 20)}
			results := call.run(x)
			want(t, call.name, results[len(results)-1], any(int64(impl.OK)))
		}
	}
}

// P1, Purity: no argument is modified, nor the unused capacity of a slice.
func TestP1FlocksAndVisitsStay(t *testing.T) {
	f, good := birdField(t), goodFlock()
	other := impl.Flock{Tree: 3, Birds: 9, Eats: 1, Bold: 1, Reach: 9, Taste: 2}
	flocks := []impl.Flock{good, other, good, {Tree: -7}, other}
	visits := []impl.Visit{visited(0, 2, 5), visited(1, 0, 1), visited(2, 0, 1), visited(-1, -1, -1), visited(9, 9, 9)}
	flocksBefore, visitsBefore := slices.Clone(flocks), slices.Clone(visits)
	for _, count := range []int{0, 1, 2, 3, 4} {
		for _, call := range birdCalls() {
			for _, n := range []int64{0, 1, 2, 3, 10} {
				call.run(birdArgs{f: f, list: flocks[:count], visits: visits[:count], a: n, b: n})
				call.run(birdArgs{f: f, list: flocks[:count], visits: visits[:count], a: n, b: 3})
			}
		}
		impl.ValidFlocks(f, flocks[:count])
		impl.SameFlocks(flocks[:count], flocks[:count])
		impl.FlocksText(flocks[:count])
		want(t, "flocks", flocks, flocksBefore)
		want(t, "visits", visits, visitsBefore)
	}
}

// P1, Purity: lists that are returned share memory neither with an argument nor with each other.
func TestP1BirdListsAreNew(t *testing.T) {
	f, list := birdField(t), flocksOf(goodFlock(), 2)
	before := slices.Clone(list)
	for _, call := range birdCalls() {
		x := birdArgs{f: f, list: list, visits: []impl.Visit{visited(0, 2, 5), visited(1, 0, 1)}, a: 1, b: 3}
		if call.name == "SplitFlock" {
			x.b = 1
		}
		first, second, third := call.run(x), call.run(x), call.run(x)
		want(t, call.name, first[len(first)-1], any(int64(impl.OK)))
		for _, result := range first {
			wearAny(result)
		}
		want(t, call.name, second, third)
		want(t, call.name+", again", call.run(x), third)
		want(t, call.name+", its flocks", list, before)
		want(t, call.name+", its visits", x.visits, []impl.Visit{visited(0, 2, 5), visited(1, 0, 1)})
	}
	one, _ := impl.ReadFlocks("10/2/3/5/200/0")
	two, _ := impl.ReadFlocks("10/2/3/5/200/0")
	wearAny(one)
	want(t, "ReadFlocks", two, []impl.Flock{goodFlock()})
}

// wearAny overwrites a list and its unused capacity, if it is one.
func wearAny(result any) {
	v := reflect.ValueOf(result)
	if v.Kind() != reflect.Slice {
		return
	}
	v = v.Slice(0, v.Cap())
	for i := range v.Len() {
		v.Index(i).SetZero()
	}
}
