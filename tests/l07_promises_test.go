package tests

import (
	"math"
	"reflect"
	"slices"
	"testing"

	"loop.example/g01338/impl"
)

// harvestArgs are arguments of all functions of the chapter.
type harvestArgs struct {
	list    []impl.Plot
	plan    []int64
	f, g    impl.Field
	diary   []impl.Entry
	a, b, c int64
}

// harvestCall is a function with a code as its last result, and at what it looks.
type harvestCall struct {
	name          string
	plots, fields bool
	run           func(x harvestArgs) []any
}

func harvestCalls() []harvestCall {
	return []harvestCall{
		{"WorthOn", true, false, func(x harvestArgs) []any { r, e := impl.WorthOn(x.list, x.a, x.b); return all(r, e) }},
		{"BestDay", true, false, func(x harvestArgs) []any { r, s, e := impl.BestDay(x.list, x.a, x.b); return all(r, s, e) }},
		{"WorthOf", true, false, func(x harvestArgs) []any { r, e := impl.WorthOf(x.list, x.a, x.plan); return all(r, e) }},
		{"LostBy", true, false, func(x harvestArgs) []any { r, e := impl.LostBy(x.list, x.a, x.plan); return all(r, e) }},
		{"GreedyPlan", true, false, func(x harvestArgs) []any {
			r, s, e := impl.GreedyPlan(x.list, x.a, x.b)
			return all(r, s, e)
		}},
		{"BestPlan", true, false, func(x harvestArgs) []any { r, s, e := impl.BestPlan(x.list, x.a, x.b); return all(r, s, e) }},
		{"WorthBound", true, false, func(x harvestArgs) []any { r, e := impl.WorthBound(x.list, x.a); return all(r, e) }},
		{"HandsFor", true, false, func(x harvestArgs) []any { r, e := impl.HandsFor(x.list, x.a, x.b); return all(r, e) }},
		{"StoreAfter", false, false, func(x harvestArgs) []any {
			r, s, e := impl.StoreAfter(x.a, x.b, x.c, x.b)
			return all(r, s, e)
		}},
		{"DaysOfStore", false, false, func(x harvestArgs) []any {
			r, e := impl.DaysOfStore(x.a, x.b, x.c, x.b)
			return all(r, e)
		}},
		{"ApplyEntry", false, true, func(x harvestArgs) []any {
			r, e := impl.ApplyEntry(x.f, entryOf(int8(x.a), int16(x.b), int16(x.c)))
			return all(r, e)
		}},
		{"ReplayDiary", false, true, func(x harvestArgs) []any { r, s, e := impl.ReplayDiary(x.f, x.diary); return all(r, s, e) }},
		{"FirstWrong", false, true, func(x harvestArgs) []any { r, s, e := impl.FirstWrong(x.f, x.diary); return all(r, s, e) }},
		{"DiaryOf", false, true, func(x harvestArgs) []any { r, e := impl.DiaryOf(x.f, x.g); return all(r, e) }},
		{"PlotsOf", false, true, func(x harvestArgs) []any { r, e := impl.PlotsOf(x.f, x.a, x.b, x.c); return all(r, e) }},
	}
}

// goodHarvestArgs are in order for each function, and each one finds something.
func goodHarvestArgs(t *testing.T) harvestArgs {
	behind, code := impl.ApplyEntry(diaryField(t), entryOf(impl.DiSow, 12, 10))
	wantCode(t, "ApplyEntry", code, impl.OK)
	return harvestArgs{list: threePlots(), plan: []int64{0, 2, 2}, f: diaryField(t), g: behind, diary: goodDiary(), a: 2, b: 2, c: 2}
}

// someHarvestArgs returns arguments that are in order, and such as are not in one way or in several.
func someHarvestArgs(t *testing.T) []harvestArgs {
	good := goodHarvestArgs(t)
	var list []harvestArgs
	with := func(how func(x *harvestArgs)) {
		x := good
		how(&x)
		list = append(list, x)
	}
	with(func(x *harvestArgs) {})
	with(func(x *harvestArgs) { x.list, x.plan, x.diary = nil, nil, nil })
	with(func(x *harvestArgs) { x.list, x.plan = plotsOf(goodPlot(), 6), []int64{0, 0, 1, 1, -1, 19} })
	with(func(x *harvestArgs) { x.plan = farNumbers })
	with(func(x *harvestArgs) { x.diary = backAndForth(100) })
	with(func(x *harvestArgs) { x.diary = backAndForth(101) })
	with(func(x *harvestArgs) { x.f, x.g = x.g, plainField(t, 10, 10) })
	with(func(x *harvestArgs) { x.f = fieldOf(t, "h p t") })
	for _, plots := range brokenPlots() {
		with(func(x *harvestArgs) { x.list = plots })
	}
	for _, plan := range brokenPlans() {
		with(func(x *harvestArgs) { x.plan = plan })
	}
	for _, f := range brokenFields() {
		with(func(x *harvestArgs) { x.f = f })
		with(func(x *harvestArgs) { x.g = f })
		with(func(x *harvestArgs) { x.f, x.g, x.diary = f, f, nil })
	}
	for _, e := range entriesWithoutText() {
		with(func(x *harvestArgs) { x.diary = []impl.Entry{e} })
		with(func(x *harvestArgs) { x.diary = append(goodDiary(), e) })
	}
	return list
}

// P1: functions return for all arguments, with equal results for equal ones, and with zero values beside an error.
func TestP1HarvestCallsReturn(t *testing.T) {
	numbers := []int64{math.MinInt64, -1, 0, 1, 2, 3, 4, 10, 20, 21, 100, 200, 1000, 65537, 1000000, 1 << 32, math.MaxInt64}
	for _, call := range harvestCalls() {
		for _, x := range someHarvestArgs(t) {
			for i, n := range numbers {
				for j, m := range numbers {
					x.a, x.b, x.c = n, m, numbers[(i+2*j)%len(numbers)]
					checkTwice(t, call.name, x, func() []any { return call.run(x) })
				}
			}
		}
	}
	for _, n := range farNumbers {
		for _, m := range farNumbers {
			checkTwice(t, "StoreAfter", []int64{n, m}, func() []any { r, s, e := impl.StoreAfter(n, m, m, n); return all(r, s, e) })
			checkTwice(t, "StoreAfter", []int64{n, m}, func() []any { r, s, e := impl.StoreAfter(1000000, 100, n, m); return all(r, s, e) })
			checkTwice(t, "DaysOfStore", []int64{n, m}, func() []any { r, e := impl.DaysOfStore(n, 100, 0, m); return all(r, e) })
			checkTwice(t, "DaysOfStore", []int64{n, m}, func() []any { r, e := impl.DaysOfStore(1000, n, m, 900); return all(r, e) })
		}
	}
}

// P1: functions without a code, and those that read and write, return for all arguments, too.
func TestP1HarvestsWithoutCodes(t *testing.T) {
	for _, x := range someHarvestArgs(t) {
		want(t, "ValidPlots", impl.ValidPlots(x.list), impl.ValidPlots(x.list))
		for _, hands := range farNumbers {
			want(t, "ValidPlan", impl.ValidPlan(x.list, hands, x.plan), impl.ValidPlan(x.list, hands, x.plan))
		}
		text := impl.DiaryText(x.diary)
		want(t, "DiaryText", impl.DiaryText(x.diary), text)
		checkTwice(t, "ReadDiary", text, func() []any { list, e := impl.ReadDiary(text); return all(list, e) })
	}
}

// P1: very long lists are looked at, too.
func TestP1LongHarvests(t *testing.T) {
	for _, call := range harvestCalls() {
		x := goodHarvestArgs(t)
		x.plan, x.diary = make([]int64, 500000), make([]impl.Entry, 150000)
		checkTwice(t, call.name, "a long plan", func() []any { return call.run(x) })
		x.list = make([]impl.Plot, 200000)
		checkTwice(t, call.name, "long lists", func() []any { return call.run(x) })
	}
}

// P1, Validity: ErrInvalid comes before all other errors, for all that is not valid.
func TestP1InvalidHarvestsAreRefused(t *testing.T) {
	for _, call := range harvestCalls() {
		wantInvalid := func(name string, x harvestArgs) {
			t.Helper()
			for _, n := range []int64{0, 1, 2, 20, -1, 21, 1000001} {
				x.a, x.b, x.c = n, n, n
				for _, x.diary = range [][]impl.Entry{nil, goodDiary(), backAndForth(101), {{}}} {
					results := call.run(x)
					want(t, call.name+" with "+name, results[len(results)-1], any(int64(impl.ErrInvalid)))
				}
			}
		}
		for name, plots := range brokenPlots() {
			x := goodHarvestArgs(t)
			if x.list = plots; call.plots {
				wantInvalid(name, x)
			}
		}
		for name, f := range brokenFields() {
			x := goodHarvestArgs(t)
			if x.f = f; call.fields {
				wantInvalid("a field with "+name, x)
			}
			if x.f, x.g = diaryField(t), f; call.name == "DiaryOf" {
				wantInvalid("a second field with "+name, x)
			}
		}
	}
}

// P1, Purity: no argument is modified, nor the unused capacity of a slice.
func TestP1PlotsPlansAndDiariesStay(t *testing.T) {
	plots := append(threePlots(), impl.Plot{Seeds: -7, Ripe: -7}, goodPlot())
	plan := []int64{0, 2, 2, -7, 300}
	diary := append(goodDiary(), entryOf(-7, -7, -7), entryOf(impl.DiSow, 0, 1))
	copies := func() []any { return all(slices.Clone(plots), slices.Clone(plan), slices.Clone(diary)) }
	before := copies()
	x := goodHarvestArgs(t)
	for count := range 5 {
		x.list, x.plan, x.diary = plots[:count], plan[:count], diary[:count+2]
		for _, call := range harvestCalls() {
			for _, n := range []int64{0, 1, 2, 3, 20, 1000, -1} {
				x.a, x.b, x.c = n, 3, 2
				call.run(x)
				x.a, x.b, x.c = 2, n, n
				call.run(x)
				want(t, call.name+" and its arguments", copies(), before)
			}
		}
		impl.ValidPlots(x.list)
		impl.ValidPlan(x.list, 2, x.plan)
		impl.DiaryText(x.diary)
		want(t, "arguments", copies(), before)
	}
}

// P1, Purity: lists that are returned share memory neither with an argument nor with each other.
func TestP1HarvestListsAreNew(t *testing.T) {
	for _, call := range harvestCalls() {
		x, before := goodHarvestArgs(t), goodHarvestArgs(t)
		x.a, x.b, x.c = 2, 2, 2
		if call.name == "ApplyEntry" {
			x.c = 1
		}
		before.a, before.b, before.c = x.a, x.b, x.c
		first, second, third := call.run(x), call.run(x), call.run(x)
		for _, result := range first {
			if v := reflect.ValueOf(result); v.Kind() == reflect.Slice {
				want(t, call.name+" has a list", v.Len() > 0, true)
			}
			wearAny(result)
		}
		want(t, call.name, second, third)
		want(t, call.name+", again", call.run(x), third)
		want(t, call.name+", its arguments", x, before)
	}
	one, _ := impl.ReadDiary("sow 1 2\n")
	two, _ := impl.ReadDiary("sow 1 2\n")
	wearAny(one)
	wantEntries(t, "ReadDiary", two, entryOf(impl.DiSow, 1, 2))
}

// P15: no plan is worth more than the best one, nor this more than the bound; all plans are gone through.
func TestP15NoPlanIsWorthMoreThanTheBestOne(t *testing.T) {
	for _, s := range smallHarvests() {
		best, most, code := impl.BestPlan(s.list, s.hands, s.days)
		wantCode(t, "BestPlan", code, impl.OK)
		want(t, "the best plan is one", impl.ValidPlan(s.list, s.hands, best), true)
		for _, day := range best {
			want(t, "a day of the best plan", day >= -1 && day < s.days, true)
		}
		worth, code := impl.WorthOf(s.list, s.hands, best)
		want(t, "what the best plan is worth", [2]int64{worth, code}, [2]int64{most, impl.OK})
		plansIn(s, func(plan []int64) {
			worth, code := impl.WorthOf(s.list, s.hands, plan)
			wantCode(t, "WorthOf", code, impl.OK)
			want(t, "no plan is worth more", worth <= most, true)
			want(t, "none before it is worth as much", worth < most || slices.Compare(best, plan) <= 0, true)
		})
		bound, code := impl.WorthBound(s.list, s.days)
		wantCode(t, "WorthBound", code, impl.OK)
		want(t, "the best plan and the bound", most <= bound, true)
	}
}

// P15: this holds with as many plots and days as there can be, for greedy plans, and for more hands and days.
func TestP15MoreHandsAndDaysAreNeverWorse(t *testing.T) {
	for _, s := range someHarvests(400, 6, 19) {
		bound, code := impl.WorthBound(s.list, s.days)
		wantCode(t, "WorthBound", code, impl.OK)
		before := int64(0)
		for hands := int64(1); hands <= 3; hands++ {
			_, most, code := impl.BestPlan(s.list, hands, s.days)
			wantCode(t, "BestPlan", code, impl.OK)
			want(t, "one more hand", before <= most && most <= bound, true)
			before = most
			_, longer, code := impl.BestPlan(s.list, hands, s.days+1)
			wantCode(t, "BestPlan", code, impl.OK)
			want(t, "one more day", most <= longer, true)
			greedy, worth, code := impl.GreedyPlan(s.list, hands, s.days)
			wantCode(t, "GreedyPlan", code, impl.OK)
			want(t, "the greedy plan is no better", worth <= most, true)
			again, code := impl.WorthOf(s.list, hands, greedy)
			want(t, "what the greedy plan is worth", [2]int64{again, code}, [2]int64{worth, impl.OK})
			needed, code := impl.HandsFor(s.list, s.days, most)
			want(t, "so many hands are enough", code == impl.OK && needed <= hands, true)
		}
		if _, code := impl.HandsFor(s.list, s.days, bound+1); code != impl.ErrNotFound {
			t.Errorf("more than the bound: code %d, want %d", code, impl.ErrNotFound)
		}
	}
}

// P15: what a plan is worth and what it loses are all seeds.
func TestP15WorthAndLossesAreAllSeeds(t *testing.T) {
	for _, s := range someHarvests(400, 6, 20) {
		seeds := int64(0)
		for _, p := range s.list {
			seeds += int64(p.Seeds)
		}
		best, most, _ := impl.BestPlan(s.list, s.hands, s.days)
		greedy, less, _ := impl.GreedyPlan(s.list, s.hands, s.days)
		for _, c := range []struct {
			plan  []int64
			worth int64
		}{{best, most}, {greedy, less}, {slices.Repeat([]int64{-1}, len(s.list)), 0}} {
			lost, code := impl.LostBy(s.list, s.hands, c.plan)
			wantCode(t, "LostBy", code, impl.OK)
			want(t, "worth and losses", c.worth+sumOf(lost), seeds)
			for _, loss := range lost {
				want(t, "no loss is less than 0", loss >= 0, true)
			}
		}
	}
}

// P16: stores never grow, nor are there ever more mice; and what is behind some days goes on as any other store.
func TestP16StoresNeverGrow(t *testing.T) {
	amounts, mice, cats := storeNumbers()
	for _, amount := range amounts {
		for _, mouse := range mice {
			for _, cat := range cats {
				before, beforeMice := amount, mouse
				for days := range int64(21) {
					seeds, left, code := impl.StoreAfter(amount, mouse, cat, days)
					wantCode(t, "StoreAfter", code, impl.OK)
					want(t, "the store has not grown", seeds >= 0 && seeds <= before, true)
					want(t, "the mice are no more", left >= 0 && left <= beforeMice, true)
					if days > 0 {
						seedsThen, leftThen, code := impl.StoreAfter(before, beforeMice, cat, 1)
						want(t, "one more day", [3]int64{seedsThen, leftThen, code}, [3]int64{seeds, left, impl.OK})
						want(t, "no mouse eats more than 50", before-seeds <= 50*beforeMice, true)
					}
					before, beforeMice = seeds, left
				}
			}
		}
	}
}

// P16: a store that is less than a need stays so, and was not before.
func TestP16StoresStayLessThanANeed(t *testing.T) {
	amounts, mice, cats := storeNumbers()
	for _, amount := range amounts {
		for _, mouse := range mice {
			for _, cat := range cats {
				for _, need := range amounts[1:] {
					days, code := impl.DaysOfStore(amount, mouse, cat, need)
					if code != impl.OK {
						wantCode(t, "DaysOfStore", code, impl.ErrNotFound)
						days = 21
					}
					for day := range int64(21) {
						seeds, _, _ := impl.StoreAfter(amount, mouse, cat, day)
						want(t, "less than the need", seeds < need, day >= days)
					}
				}
			}
		}
	}
}

// P17: seeds that have been sown, or were there before, are eaten, harvested, fallen or standing.
func TestP17SownSeedsAreSomewhere(t *testing.T) {
	whole := 0
	for _, s := range someDiaries() {
		behind, sums, code := impl.ReplayDiary(s.f, s.diary)
		if code != impl.OK {
			continue
		}
		whole++
		had, code := impl.SeedsIn(s.f)
		wantCode(t, "SeedsIn", code, impl.OK)
		has, code := impl.SeedsIn(behind)
		wantCode(t, "SeedsIn", code, impl.OK)
		want(t, "sown, eaten, harvested, fallen and standing", had+sums[impl.DiSow], sums[impl.DiEat]+sums[impl.DiTake]+sums[impl.DiFall]+has)
		want(t, "the field behind is valid", impl.ValidField(behind), true)
		now := s.f
		for _, e := range s.diary {
			next, code := impl.ApplyEntry(now, e)
			wantCode(t, "ApplyEntry", code, impl.OK)
			change := seedsOf(next) - seedsOf(now)
			want(t, "each entry by itself", change, map[bool]int64{true: int64(e.Amount), false: -int64(e.Amount)}[e.What == impl.DiSow])
			now = next
		}
		want(t, "one entry behind the other", now, behind)
	}
	want(t, "there are many whole diaries", whole > 300, true)
}

// P17: a diary that is made of two fields leads from the one to the other.
func TestP17DiariesLeadFromFieldToField(t *testing.T) {
	for _, s := range someDiaries() {
		other := s.f
		for n := range int64(100) {
			if isSoilCell(s.f, n) && (len(s.diary)+int(n))%3 > 0 {
				other.Seeds[n] = int16((7*n + int64(len(s.diary))) % 1001)
			}
		}
		for _, fields := range [][2]impl.Field{{s.f, other}, {other, s.f}, {s.f, s.f}} {
			diary, code := impl.DiaryOf(fields[0], fields[1])
			wantCode(t, "DiaryOf", code, impl.OK)
			behind, sums, code := impl.ReplayDiary(fields[0], diary)
			wantCode(t, "ReplayDiary", code, impl.OK)
			want(t, "the other field", behind, fields[1])
			want(t, "what is sown and eaten", sums[impl.DiSow]-sums[impl.DiEat], seedsOf(fields[1])-seedsOf(fields[0]))
			want(t, "nothing is harvested or fallen", sums[impl.DiTake]+sums[impl.DiFall], 0)
			for i, e := range diary {
				want(t, "cells ascend", i == 0 || diary[i-1].Cell < e.Cell, true)
			}
		}
	}
}
