package tests

import (
	"math"
	"math/rand/v2"
	"reflect"
	"runtime"
	"slices"
	"testing"

	"loop.example/g01338/impl"
)

// lossArgs are arguments of all functions of the chapter.
type lossArgs struct {
	before, after impl.Field
	o             impl.Owners
	sample        impl.Cells
	claims        []int64
	shares        []int64
	n             int64
}

// lossCall is a function with a code as its last result, and at what it looks.
type lossCall struct {
	name         string
	pair, owners bool
	run          func(x lossArgs) []any
}

func lossCalls() []lossCall {
	return []lossCall{
		{"LossOf", true, false, func(x lossArgs) []any { r, e := impl.LossOf(x.before, x.after); return all(r, e) }},
		{"AllLoss", true, false, func(x lossArgs) []any { r, e := impl.AllLoss(x.before, x.after); return all(r, e) }},
		{"WorstCell", true, false, func(x lossArgs) []any {
			r, s, e := impl.WorstCell(x.before, x.after)
			return all(r, s, e)
		}},
		{"BareCells", true, false, func(x lossArgs) []any { r, e := impl.BareCells(x.before, x.after); return all(r, e) }},
		{"PatchesOf", false, true, func(x lossArgs) []any { r, e := impl.PatchesOf(x.before, x.o, x.n); return all(r, e) }},
		{"LossByOwner", true, true, func(x lossArgs) []any {
			r, e := impl.LossByOwner(x.before, x.after, x.o)
			return all(r, e)
		}},
		{"SharesOf", false, false, func(x lossArgs) []any { r, e := impl.SharesOf(x.claims, x.n); return all(r, e) }},
		{"CheckShares", false, false, func(x lossArgs) []any {
			r, e := impl.CheckShares(x.claims, x.n, x.shares)
			return all(r, e)
		}},
		{"EqualAwards", false, false, func(x lossArgs) []any { r, e := impl.EqualAwards(x.claims, x.n); return all(r, e) }},
		{"CheckAwards", false, false, func(x lossArgs) []any {
			r, e := impl.CheckAwards(x.claims, x.n, x.shares)
			return all(r, e)
		}},
		{"FairClaims", true, true, func(x lossArgs) []any {
			r, e := impl.FairClaims(x.before, x.after, x.o, x.claims)
			return all(r, e)
		}},
		{"FalseClaims", true, true, func(x lossArgs) []any {
			r, e := impl.FalseClaims(x.before, x.after, x.o, x.claims)
			return all(r, e)
		}},
		{"GuessLoss", true, false, func(x lossArgs) []any {
			r, e := impl.GuessLoss(x.before, x.after, x.sample)
			return all(r, e)
		}},
		{"BoundsOfLoss", true, false, func(x lossArgs) []any {
			r, s, e := impl.BoundsOfLoss(x.before, x.after, x.sample)
			return all(r, s, e)
		}},
		{"BordersOf", false, true, func(x lossArgs) []any { r, e := impl.BordersOf(x.before, x.o); return all(r, e) }},
	}
}

// goodLossArgs are in order for each function, and each one finds something.
func goodLossArgs(t *testing.T) lossArgs {
	return lossArgs{
		before: lossBefore(t), after: lossAfter(t), o: goodOwners(), sample: setOf(0, 1, 3, 99),
		claims: []int64{1, 5, 6, 12, 0, 0, 0, 0, 1, 10}, shares: []int64{0, 0, 1, 2, 0, 0, 0, 0, 0, 0}, n: 3,
	}
}

// someLossArgs returns arguments that are in order, and such as are not in one way or in several.
func someLossArgs(t *testing.T) []lossArgs {
	good := goodLossArgs(t)
	var list []lossArgs
	with := func(how func(x *lossArgs)) {
		x := good
		how(&x)
		list = append(list, x)
	}
	with(func(x *lossArgs) {})
	with(func(x *lossArgs) { x.claims, x.shares, x.sample = nil, nil, impl.Cells{} })
	with(func(x *lossArgs) { x.sample = everything() })
	with(func(x *lossArgs) { x.sample = strayBits() })
	with(func(x *lossArgs) { x.before, x.after = x.after, x.before })
	with(func(x *lossArgs) { x.claims, x.shares = farNumbers, farNumbers })
	with(func(x *lossArgs) { x.shares = slices.Repeat([]int64{math.MaxInt64}, 10) })
	with(func(x *lossArgs) { x.shares = slices.Repeat([]int64{math.MinInt64}, 10) })
	with(func(x *lossArgs) { x.claims, x.shares = make([]int64, 10), make([]int64, 10) })
	with(func(x *lossArgs) {
		x.claims, x.shares = slices.Repeat([]int64{1000000}, 100), slices.Repeat([]int64{10000}, 100)
	})
	with(func(x *lossArgs) { x.claims = slices.Repeat([]int64{1000000}, 101) })
	with(func(x *lossArgs) {
		x.before, x.after, x.o = plainField(t, 10, 10), plainField(t, 10, 10), impl.Owners{}
	})
	for _, f := range brokenFields() {
		with(func(x *lossArgs) { x.before = f })
		with(func(x *lossArgs) { x.after = f })
		with(func(x *lossArgs) { x.before, x.after, x.o, x.claims = f, f, impl.Owners{}, nil })
	}
	for _, f := range notAfter(t) {
		with(func(x *lossArgs) { x.after = f })
		with(func(x *lossArgs) { x.before = f })
	}
	for _, o := range brokenOwners() {
		with(func(x *lossArgs) { x.o = o })
	}
	return list
}

// P1: functions return for all arguments, with equal results for equal ones, and with zero values beside an error.
func TestP1LossCallsReturn(t *testing.T) {
	numbers := append([]int64{999999, 1000000, 1000001}, farNumbers...)
	for _, call := range lossCalls() {
		for _, x := range someLossArgs(t) {
			for _, x.n = range numbers {
				checkTwice(t, call.name, x, func() []any { return call.run(x) })
			}
		}
	}
}

// P1: functions without a code, and those that read and write, return for all arguments, too.
func TestP1OwnersWithoutCodes(t *testing.T) {
	for _, x := range someLossArgs(t) {
		want(t, "ValidOwners", impl.ValidOwners(x.before, x.o), impl.ValidOwners(x.before, x.o))
		text := impl.OwnersText(x.before, x.o)
		want(t, "OwnersText", impl.OwnersText(x.before, x.o), text)
		checkTwice(t, "ReadOwners", text, func() []any { f, o, e := impl.ReadOwners(text); return all(f, o, e) })
	}
}

// P1: lists of a million numbers are looked at, too.
func TestP1LongListsOfMoney(t *testing.T) {
	long := slices.Repeat([]int64{1}, 900000)
	for _, call := range lossCalls() {
		x := goodLossArgs(t)
		x.shares = long
		checkTwice(t, call.name, "long shares", func() []any { return call.run(x) })
		x.claims = long
		checkTwice(t, call.name, "long claims", func() []any { return call.run(x) })
	}
}

// P1, Validity: ErrInvalid comes before all other errors, for all that is not valid.
func TestP1InvalidLossesAreRefused(t *testing.T) {
	for _, call := range lossCalls() {
		wantInvalid := func(name string, x lossArgs) {
			t.Helper()
			for _, x.n = range []int64{0, 9, -1, 10, 1000001} {
				for _, x.claims = range [][]int64{make([]int64, 10), nil, {-1}} {
					for _, x.sample = range []impl.Cells{setOf(0), {}} {
						results := call.run(x)
						want(t, call.name+" with "+name, results[len(results)-1], any(int64(impl.ErrInvalid)))
					}
				}
			}
		}
		for name, f := range brokenFields() {
			x := goodLossArgs(t)
			if x.before = f; call.pair || call.owners {
				wantInvalid("a field with "+name, x)
			}
			if x.before, x.after = lossBefore(t), f; call.pair {
				wantInvalid("a field after with "+name, x)
			}
			if x.before = f; call.pair {
				wantInvalid("two fields with "+name, x)
			}
		}
		for name, o := range brokenOwners() {
			x := goodLossArgs(t)
			if x.o = o; call.owners {
				wantInvalid("owners "+name, x)
			}
		}
	}
}

// P1, Purity: no argument is modified, nor the unused capacity of a slice.
func TestP1ClaimsAndSharesStay(t *testing.T) {
	claims, shares := []int64{1, 5, 6, 12, 0, 0, 0, 0, 1, 10, 7, -7, 3}, []int64{0, 0, 1, 2, 0, 0, 0, 0, 0, 0, 9, -7, 3}
	copies := func() []any { return all(slices.Clone(claims), slices.Clone(shares)) }
	before := copies()
	x := goodLossArgs(t)
	for count := range 12 {
		x.claims, x.shares = claims[:count], shares[:count]
		for _, call := range lossCalls() {
			for _, x.n = range []int64{0, 1, 3, 9, 35, 1000000, -1} {
				call.run(x)
				want(t, call.name+" and its arguments", copies(), before)
			}
		}
	}
}

// P1, Purity: lists that are returned share memory neither with an argument nor with each other.
func TestP1LossListsAreNew(t *testing.T) {
	for _, call := range lossCalls() {
		for _, n := range []int64{3, 35, 1000000} {
			x, before := goodLossArgs(t), goodLossArgs(t)
			x.n, before.n = n, n
			first, second, third := call.run(x), call.run(x), call.run(x)
			for _, result := range first {
				if v := reflect.ValueOf(result); v.Kind() == reflect.Slice {
					want(t, call.name+" has a list", v.Len() > 0, true)
				}
				wearAny(result)
			}
			want(t, call.name, second, third)
			want(t, call.name+", again", call.run(x), third)
			want(t, call.name+", its arguments", x, before)
		}
	}
}

// P1: goroutines that are started have come to their end, and their order is never seen.
func TestP1RowsAreJoined(t *testing.T) {
	before := runtime.NumGoroutine()
	full, _ := impl.PlainField(10, 10, 7)
	after := full
	for _, n := range []int{15, 42, 47, 51, 99} {
		after.Seeds[n] = 0
	}
	for range 2000 {
		cell, loss, code := impl.WorstCell(full, after)
		want(t, "WorstCell", [3]int64{cell, loss, code}, [3]int64{15, 7, impl.OK})
	}
	wantJoined(t, before)
}

// P13: losses sum to what there is less, of all cells and of all owners.
func TestP13LossesSumToWhatThereIsLess(t *testing.T) {
	for _, s := range someLossScenes() {
		sum, code := impl.AllLoss(s.before, s.after)
		want(t, "AllLoss", [2]int64{sum, code}, [2]int64{s.lessIn(), impl.OK})
		losses, code := impl.LossOf(s.before, s.after)
		wantCode(t, "LossOf", code, impl.OK)
		cells := int64(0)
		for _, loss := range losses {
			want(t, "no loss is less than 0", loss >= 0, true)
			cells += int64(loss)
		}
		want(t, "the sum of LossOf", cells, s.lessIn())
		owners, code := impl.LossByOwner(s.before, s.after, s.o)
		wantCode(t, "LossByOwner", code, impl.OK)
		want(t, "the sum of LossByOwner", sumOf(owners), s.lessIn())
		had, _ := impl.SeedsIn(s.before)
		has, _ := impl.SeedsIn(s.after)
		want(t, "what there is less", had-has, sum)
	}
}

// P13: each loss by itself is what has been taken; it is that of its cell and of its owner, and of no others.
func TestP13TakenSeedsAreLost(t *testing.T) {
	for _, s := range someLossScenes() {
		for n := range int64(100) {
			if !s.soilAt(n) || s.before.Seeds[n] == 0 {
				continue
			}
			after, taken, code := impl.TakeSeeds(s.before, n, 1+n)
			wantCode(t, "TakeSeeds", code, impl.OK)
			var only [100]int16
			only[n] = int16(taken)
			losses, _ := impl.LossOf(s.before, after)
			want(t, "the losses", losses, only)
			sum, _ := impl.AllLoss(s.before, after)
			want(t, "all losses", sum, taken)
			cell, loss, _ := impl.WorstCell(s.before, after)
			want(t, "the worst cell", [2]int64{cell, loss}, [2]int64{n, taken})
			owners, _ := impl.LossByOwner(s.before, after, s.o)
			wanted := make([]int64, 10)
			wanted[s.o[n]] = taken
			wantList(t, "the losses of owners", owners, wanted...)
			_, code = impl.AllLoss(after, s.before)
			wantCode(t, "more after than before", code, impl.ErrState)
		}
	}
}

// P13: the loss is within its bounds, and both of them are losses that are possible.
func TestP13TheLossIsWithinItsBounds(t *testing.T) {
	for _, s := range someLossScenes() {
		sum, _ := impl.AllLoss(s.before, s.after)
		for _, sample := range append(someSets(), s.sample) {
			least, most, code := impl.BoundsOfLoss(s.before, s.after, sample)
			wantCode(t, "BoundsOfLoss", code, impl.OK)
			want(t, "the loss is within its bounds", least <= sum && sum <= most, true)
			unhurt, bare := s.after, s.after
			for n := range int64(100) {
				if !isIn(sample, n) {
					unhurt.Seeds[n], bare.Seeds[n] = s.before.Seeds[n], 0
				}
			}
			lowest, code := impl.AllLoss(s.before, unhurt)
			want(t, "the least loss", [2]int64{lowest, code}, [2]int64{least, impl.OK})
			highest, code := impl.AllLoss(s.before, bare)
			want(t, "the greatest loss", [2]int64{highest, code}, [2]int64{most, impl.OK})
		}
		least, most, _ := impl.BoundsOfLoss(s.before, s.after, everything())
		want(t, "all cells are known", [2]int64{least, most}, [2]int64{sum, sum})
		guess, code := impl.GuessLoss(s.before, s.after, everything())
		if code == impl.OK {
			want(t, "nothing is guessed", guess, sum)
		}
	}
}

// P14: shares sum to the money, no share is off by 1 or more, and the greatest remainders come first.
func TestP14SharesSumToTheMoney(t *testing.T) {
	r := rand.New(rand.NewPCG(33, 34))
	for i := range 20000 {
		amounts, money := someAmounts(r, i%4 > 0)
		if sumOf(amounts) == 0 {
			money = 0
		}
		shares, code := impl.SharesOf(amounts, money)
		wantCode(t, "SharesOf", code, impl.OK)
		wantList(t, "SharesOf", shares, sharesIn(amounts, money)...)
		want(t, "their sum", sumOf(shares), money)
		want(t, "no share is off by 1 or more", areSharesIn(amounts, money, shares), true)
		fine, code := impl.CheckShares(amounts, money, shares)
		wantCode(t, "CheckShares", code, impl.OK)
		want(t, "CheckShares", fine, true)
	}
}

// P14: of lists that are near to shares, those are shares that sum to the money, with none that is off by 1 or more.
func TestP14SharesAreCheckedAsTold(t *testing.T) {
	r := rand.New(rand.NewPCG(35, 36))
	right, wrong := 0, 0
	for i := range 20000 {
		amounts, money := someAmounts(r, i%4 > 0)
		if sumOf(amounts) == 0 {
			money = 0
		}
		near := nearTo(r, sharesIn(amounts, money))
		fine, code := impl.CheckShares(amounts, money, near)
		wantCode(t, "CheckShares", code, impl.OK)
		want(t, "CheckShares", fine, areSharesIn(amounts, money, near))
		if fine {
			right++
		} else {
			wrong++
		}
	}
	want(t, "there are many of both", right > 2000 && wrong > 2000, true)
}

// P14: awards are no more than claims, and sum to the money, or to the claims.
func TestP14AwardsAreNoMoreThanClaims(t *testing.T) {
	r := rand.New(rand.NewPCG(37, 38))
	for i := range 20000 {
		claims, money := someAmounts(r, i%4 > 0)
		awards, code := impl.EqualAwards(claims, money)
		wantCode(t, "EqualAwards", code, impl.OK)
		if i%4 > 0 {
			wantList(t, "EqualAwards", awards, awardsIn(claims, money)...)
		}
		for i, award := range awards {
			want(t, "no award is more than its claim", award >= 0 && award <= claims[i], true)
		}
		want(t, "their sum", sumOf(awards), min(money, sumOf(claims)))
		want(t, "they are as told", areAwardsIn(claims, money, awards), true)
		fine, code := impl.CheckAwards(claims, money, awards)
		wantCode(t, "CheckAwards", code, impl.OK)
		want(t, "CheckAwards", fine, true)
		wantRestFirst(t, claims, awards)
	}
}

// wantRestFirst expects that of those who are cut none gets more than one with a lesser index who is cut, too.
func wantRestFirst(t *testing.T, claims, awards []int64) {
	t.Helper()
	before := int64(math.MaxInt64)
	for i, award := range awards {
		if award < claims[i] {
			want(t, "the rest goes to the least index", award <= before, true)
			before = award
		}
	}
}

// P14: of lists that are near to awards, those are awards that are as told.
func TestP14AwardsAreCheckedAsTold(t *testing.T) {
	r := rand.New(rand.NewPCG(39, 40))
	right, wrong := 0, 0
	for i := range 20000 {
		claims, money := someAmounts(r, i%4 > 0)
		awards, code := impl.EqualAwards(claims, money)
		wantCode(t, "EqualAwards", code, impl.OK)
		near := nearTo(r, awards)
		fine, code := impl.CheckAwards(claims, money, near)
		wantCode(t, "CheckAwards", code, impl.OK)
		want(t, "CheckAwards", fine, areAwardsIn(claims, money, near))
		if fine {
			right++
		} else {
			wrong++
		}
	}
	want(t, "there are many of both", right > 2000 && wrong > 2000, true)
}

// P14: what all have lost is shared among them, and no fair claim is more than a loss.
func TestP14LossesAreShared(t *testing.T) {
	for _, s := range someLossScenes() {
		losses, code := impl.LossByOwner(s.before, s.after, s.o)
		wantCode(t, "LossByOwner", code, impl.OK)
		sum, _ := impl.AllLoss(s.before, s.after)
		shares, code := impl.SharesOf(losses, sum)
		wantCode(t, "SharesOf", code, impl.OK)
		wantList(t, "all of the loss", shares, losses...)
		fair, code := impl.FairClaims(s.before, s.after, s.o, s.claims)
		wantCode(t, "FairClaims", code, impl.OK)
		awards, code := impl.EqualAwards(fair, sum/2)
		wantCode(t, "EqualAwards", code, impl.OK)
		untrues, code := impl.FalseClaims(s.before, s.after, s.o, s.claims)
		wantCode(t, "FalseClaims", code, impl.OK)
		for owner := range int64(10) {
			want(t, "awards, fair claims and losses", awards[owner] <= fair[owner] && fair[owner] <= losses[owner], true)
			want(t, "false claims are not fair", slices.Contains(untrues, owner), fair[owner] < s.claims[owner])
		}
	}
}
