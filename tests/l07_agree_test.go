package tests

import (
	"math/rand/v2"
	"testing"

	"loop.example/g01338/impl"
)

// farm is a field with scarecrows, flocks and owners that are valid for it.
type farm struct {
	f      impl.Field
	scares []impl.Scarecrow
	flocks []impl.Flock
	o      impl.Owners
}

// someFarms returns farms of all sizes. No flock is as bold as the greatest fear.
func someFarms() []farm {
	r := rand.New(rand.NewPCG(45, 46))
	var farms []farm
	for _, w := range someWorlds() {
		m := farm{f: w.f, o: ownersOf(w.f, func(int64) int64 { return r.Int64N(10) })}
		for n := range int64(100) {
			if isPlace(w.f, n) && r.IntN(8) == 0 && len(m.scares) < 8 {
				m.scares = append(m.scares, impl.Scarecrow{Cell: int16(n), Power: []int16{1, 6, 20, 1000}[r.IntN(4)], Age: []int8{0, 0, 2, 3, 30}[r.IntN(5)]})
			}
		}
		for _, b := range w.list {
			b.Bold = min(b.Bold, 999)
			m.flocks = append(m.flocks, b)
		}
		farms = append(farms, m)
	}
	return farms
}

// fedFarm is a farm, and what comes of it in a day.
type fedFarm struct {
	farm
	fears  impl.Fears
	after  impl.Field
	visits []impl.Visit
}

func feedFarm(t *testing.T, m farm) fedFarm {
	t.Helper()
	fears, code := impl.FearMap(m.f, m.scares)
	wantCode(t, "FearMap", code, impl.OK)
	want(t, "fears are valid", impl.ValidFears(m.f, fears), true)
	after, visits, code := impl.FeedAll(m.f, fears, m.flocks)
	wantCode(t, "FeedAll", code, impl.OK)
	return fedFarm{m, fears, after, visits}
}

// eatenIn tells what has been eaten in each cell.
func (d fedFarm) eatenIn() [100]int16 {
	var eaten [100]int16
	for _, v := range d.visits {
		eaten[v.Cell] += v.Seeds
	}
	return eaten
}

// visitedCells is the set of the cells where something has been eaten.
func (d fedFarm) visitedCells() impl.Cells {
	var set impl.Cells
	for _, v := range d.visits {
		set[0], set[1] = withNumber(set, int64(v.Cell))
	}
	return set
}

// eatingDiary has an entry for each visit.
func (d fedFarm) eatingDiary() []impl.Entry {
	var diary []impl.Entry
	for _, v := range d.visits {
		diary = append(diary, entryOf(impl.DiEat, v.Cell, v.Seeds))
	}
	return diary
}

// wantFearAgrees expects that flocks stay away from where scarecrows make them afraid, and cells that are safe from them lose nothing.
func wantFearAgrees(t *testing.T, d fedFarm) {
	t.Helper()
	for _, v := range d.visits {
		b := d.flocks[v.Flock]
		fear, code := impl.FearOf(d.f, d.scares, int64(v.Cell))
		wantCode(t, "FearOf", code, impl.OK)
		want(t, "a flock is not afraid where it eats", fear <= int64(b.Bold), true)
		frightened, code := impl.SafeCells(d.f, d.scares, int64(b.Bold)+1)
		wantCode(t, "SafeCells", code, impl.OK)
		want(t, "nor are cells safe where it eats", impl.HasCell(frightened, int64(v.Cell)), false)
	}
	safe, code := impl.SafeFrom(d.f, d.fears, d.flocks)
	wantCode(t, "SafeFrom", code, impl.OK)
	want(t, "nothing is eaten in safe cells", impl.BothOf(safe, d.visitedCells()), impl.Cells{})
	all, code := impl.SafeCells(d.f, d.scares, impl.MaxPower)
	wantCode(t, "SafeCells", code, impl.OK)
	want(t, "where the fear is greatest, no flock goes", impl.WithoutOf(all, safe), impl.Cells{})
}

// wantLossAgrees expects that what flocks eat is what the field loses.
func wantLossAgrees(t *testing.T, d fedFarm) {
	t.Helper()
	eaten, code := impl.EatenBy(d.f, d.flocks, d.visits)
	wantCode(t, "EatenBy", code, impl.OK)
	sum, code := impl.AllLoss(d.f, d.after)
	want(t, "all that is eaten is lost", [2]int64{sum, code}, [2]int64{sumOf(eaten), impl.OK})
	losses, code := impl.LossOf(d.f, d.after)
	wantCode(t, "LossOf", code, impl.OK)
	want(t, "it is lost where it is eaten", losses, d.eatenIn())
	had, _ := impl.SeedsIn(d.f)
	has, _ := impl.SeedsIn(d.after)
	want(t, "what was and what is left", had-has, sum)
	_, byDay, code := impl.FeedDays(d.f, d.fears, d.flocks, 1)
	wantCode(t, "FeedDays", code, impl.OK)
	wantList(t, "FeedDays", byDay, sum)
	bare, code := impl.BareCells(d.f, d.after)
	wantCode(t, "BareCells", code, impl.OK)
	want(t, "flocks have been where it is bare now", impl.WithoutOf(bare, d.visitedCells()), impl.Cells{})
	least, most, code := impl.BoundsOfLoss(d.f, d.after, d.visitedCells())
	want(t, "where they have been is all that is lost", [2]int64{least, code}, [2]int64{sum, impl.OK})
	want(t, "the rest may be", most, sum+seedsOf(d.after)-sumOver(func(n int64) int64 { return int64(d.after.Seeds[n]) }, func(n int64) bool { return isIn(d.visitedCells(), n) }))
}

// wantSharesAgree expects that owners lose what the field loses, and their shares sum to it.
func wantSharesAgree(t *testing.T, d fedFarm) {
	t.Helper()
	sum, _ := impl.AllLoss(d.f, d.after)
	losses, code := impl.LossByOwner(d.f, d.after, d.o)
	wantCode(t, "LossByOwner", code, impl.OK)
	want(t, "owners lose what is lost", sumOf(losses), sum)
	for owner, loss := range losses {
		patches, code := impl.PatchesOf(d.f, d.o, int64(owner))
		wantCode(t, "PatchesOf", code, impl.OK)
		eaten := d.eatenIn()
		want(t, "an owner loses what is eaten there", loss, sumOver(func(n int64) int64 { return int64(eaten[n]) }, func(n int64) bool { return isIn(patches, n) }))
	}
	for _, money := range []int64{sum, 7 * sum / 10, min(sum, 1)} {
		shares, code := impl.SharesOf(losses, money)
		wantCode(t, "SharesOf", code, impl.OK)
		want(t, "shares sum to the money", sumOf(shares), money)
		fine, code := impl.CheckShares(losses, money, shares)
		want(t, "shares are as told", fine && code == impl.OK, true)
		awards, code := impl.EqualAwards(losses, money)
		wantCode(t, "EqualAwards", code, impl.OK)
		want(t, "awards sum to the money", sumOf(awards), money)
		untrue, code := impl.FalseClaims(d.f, d.after, d.o, awards)
		wantCode(t, "FalseClaims", code, impl.OK)
		wantList(t, "no award is more than a loss", untrue)
	}
	shares, _ := impl.SharesOf(losses, sum)
	wantList(t, "shares of all of it are the losses", shares, losses...)
}

// wantDiaryAgrees expects that diaries tell what has been eaten.
func wantDiaryAgrees(t *testing.T, d fedFarm) {
	t.Helper()
	sum, _ := impl.AllLoss(d.f, d.after)
	short, code := impl.DiaryOf(d.f, d.after)
	wantCode(t, "DiaryOf", code, impl.OK)
	for _, diary := range [][]impl.Entry{d.eatingDiary(), short} {
		after, sums, code := impl.ReplayDiary(d.f, diary)
		wantCode(t, "ReplayDiary", code, impl.OK)
		want(t, "the field behind the day", after, d.after)
		want(t, "what the diary tells", sums, [4]int64{impl.DiEat: sum})
		again, code := impl.ReadDiary(impl.DiaryText(diary))
		wantCode(t, "ReadDiary", code, impl.OK)
		wantEntries(t, "ReadDiary", again, diary...)
	}
	eaten := d.eatenIn()
	var told [100]int16
	for _, e := range short {
		told[e.Cell] = e.Amount
	}
	want(t, "each cell is told", told, eaten)
	back, code := impl.DiaryOf(d.after, d.f)
	wantCode(t, "DiaryOf", code, impl.OK)
	before, sums, code := impl.ReplayDiary(d.after, back)
	wantCode(t, "ReplayDiary", code, impl.OK)
	want(t, "what is lost is sown again", before, d.f)
	want(t, "what is lost is sown again", sums, [4]int64{impl.DiSow: sum})
}

// wantNetsAgree expects that nothing is lost under nets over which flocks are afraid.
func wantNetsAgree(t *testing.T, d fedFarm) {
	t.Helper()
	var targets impl.Cells
	for _, n := range targetsIn(d.visitedCells())[:min(12, len(targetsIn(d.visitedCells())))] {
		targets[0], targets[1] = withNumber(targets, n)
	}
	nets, _, code := impl.GreedyNets(d.f, impl.Prices{Base: 3, Cell: 2}, targets)
	wantCode(t, "GreedyNets", code, impl.OK)
	covered, code := impl.CoveredBy(d.f, nets)
	wantCode(t, "CoveredBy", code, impl.OK)
	want(t, "nets cover where flocks have been", impl.WithoutOf(targets, covered), impl.Cells{})
	fears := d.fears
	for n := range int64(100) {
		if isIn(covered, n) {
			fears[n] = 1000
		}
	}
	after, visits, code := impl.FeedAll(d.f, fears, d.flocks)
	wantCode(t, "FeedAll", code, impl.OK)
	losses, code := impl.LossOf(d.f, after)
	wantCode(t, "LossOf", code, impl.OK)
	want(t, "nothing is lost under nets", sumOver(func(n int64) int64 { return int64(losses[n]) }, func(n int64) bool { return isIn(covered, n) }), 0)
	wantDiaryAgrees(t, fedFarm{d.farm, fears, after, visits})
}

// wantBeatsAgree expects that a beat sees where flocks have been, and what a watcher sees is enough to know the loss.
func wantBeatsAgree(t *testing.T, d fedFarm) {
	t.Helper()
	targets := targetsIn(d.visitedCells())
	if len(targets) == 0 {
		return
	}
	targets = targets[:min(6, len(targets))]
	beat, code := impl.ShortestBeat(d.f, targets[0], 5, targets)
	if code == impl.ErrNotFound {
		return
	}
	wantCode(t, "ShortestBeat", code, impl.OK)
	fine, code := impl.CheckBeat(d.f, beat, 5, targets)
	want(t, "the beat sees where flocks have been", fine && code == impl.OK, true)
	seen, code := impl.SeenBy(d.f, beat, 5)
	wantCode(t, "SeenBy", code, impl.OK)
	least, most, code := impl.BoundsOfLoss(d.f, d.after, seen)
	wantCode(t, "BoundsOfLoss", code, impl.OK)
	sum, _ := impl.AllLoss(d.f, d.after)
	want(t, "the loss is within what watchers know", least <= sum && sum <= most, true)
	if impl.WithoutOf(d.visitedCells(), seen) == (impl.Cells{}) {
		want(t, "they know all of it", least, sum)
	}
}

// wantHarvestAgrees expects that of what is left some is harvested, and the rest falls.
func wantHarvestAgrees(t *testing.T, d fedFarm) {
	t.Helper()
	plots, code := impl.PlotsOf(d.after, 1, 4, 2)
	if code == impl.ErrLimit {
		return
	}
	wantCode(t, "PlotsOf", code, impl.OK)
	plan, worth, code := impl.BestPlan(plots, 1, 6)
	wantCode(t, "BestPlan", code, impl.OK)
	lost, code := impl.LostBy(plots, 1, plan)
	wantCode(t, "LostBy", code, impl.OK)
	has, _ := impl.SeedsIn(d.after)
	want(t, "what is left is harvested or fallen", worth+sumOf(lost), has)
	diary, i := d.eatingDiary(), 0
	for n, seeds := range d.after.Seeds {
		if seeds == 0 {
			continue
		}
		if taken := seeds - int16(lost[i]); taken > 0 {
			diary = append(diary, entryOf(impl.DiTake, int16(n), taken))
		}
		if lost[i] > 0 {
			diary = append(diary, entryOf(impl.DiFall, int16(n), int16(lost[i])))
		}
		i++
	}
	end, sums, code := impl.ReplayDiary(d.f, diary)
	wantCode(t, "ReplayDiary", code, impl.OK)
	eaten, _ := impl.AllLoss(d.f, d.after)
	want(t, "all seeds of the diary", sums, [4]int64{0, eaten, worth, sumOf(lost)})
	want(t, "nothing is standing", seedsOf(end), 0)
	all, code := impl.AllLoss(d.f, end)
	want(t, "it is what the field loses", [2]int64{all, code}, [2]int64{sumOf(sums[:]), impl.OK})
	stored, _, code := impl.StoreAfter(sums[impl.DiTake], 9, 1, 7)
	want(t, "what is stored is no more than what is harvested", code == impl.OK && stored <= worth, true)
}

// P18: fear, feeding, losses, shares and diaries agree on one field.
func TestP18AllChaptersAgree(t *testing.T) {
	eating, frightened, harvested := 0, 0, 0
	for _, m := range someFarms() {
		d := feedFarm(t, m)
		wantFearAgrees(t, d)
		wantLossAgrees(t, d)
		wantSharesAgree(t, d)
		wantDiaryAgrees(t, d)
		wantNetsAgree(t, d)
		wantBeatsAgree(t, d)
		wantHarvestAgrees(t, d)
		if len(d.visits) > 0 {
			eating++
		}
		if calm, _, _ := impl.FeedAll(m.f, impl.CalmFears(), m.flocks); calm != d.after {
			frightened++
		}
		if _, code := impl.PlotsOf(d.after, 0, 0, 0); code == impl.OK {
			harvested++
		}
	}
	want(t, "many flocks eat, many are afraid, and many fields are harvested", eating > 200 && frightened > 50 && harvested > 50, true)
}

// oneFarm is the field that goes through all chapters: a scarecrow in the cell 12 frightens two flocks.
func oneFarm(t *testing.T) farm {
	t.Helper()
	f, o := ownedField(t, "0 0 1 1\n0 0 1 1\n2 2 1 1\n\n6 4 h t\n5 p 8 2\nt 3 0 9\n")
	scares, code := impl.AddScare(f, nil, 12, 20)
	wantCode(t, "AddScare", code, impl.OK)
	flocks, code := impl.ReadFlocks("20/2/4/5/200/0 3/1/3/6/4/1")
	wantCode(t, "ReadFlocks", code, impl.OK)
	return farm{f, scares, flocks, o}
}

// P18: one field goes through all chapters.
func TestP18OneFieldGoesThroughAllChapters(t *testing.T) {
	d := feedFarm(t, oneFarm(t))
	for _, agree := range []func(t *testing.T, d fedFarm){
		wantFearAgrees, wantLossAgrees, wantSharesAgree, wantDiaryAgrees, wantNetsAgree, wantBeatsAgree, wantHarvestAgrees,
		wantOneFear, wantOneLoss, wantOneGuard, wantOneHarvest,
	} {
		agree(t, d)
	}
}

// wantOneFear goes through the chapters 1 to 3.
func wantOneFear(t *testing.T, d fedFarm) {
	t.Helper()
	want(t, "seeds that are sown", seedsOf(d.f), 37)
	for n, fear := range map[int64]int16{12: 20, 13: 10, 22: 10, 1: 6, 21: 6, 23: 6, 10: 4, 0: 3, 20: 3} {
		want(t, "fear", d.fears[n], fear)
	}
	for least, cells := range map[int64]impl.Cells{6: setOf(1, 12, 13, 21, 22, 23), 7: setOf(12, 13, 22), 21: setOf()} {
		safe, code := impl.SafeCells(d.f, d.scares, least)
		wantCode(t, "SafeCells", code, impl.OK)
		want(t, "SafeCells", safe, cells)
	}
	safe, code := impl.SafeFrom(d.f, d.fears, d.flocks)
	wantCode(t, "SafeFrom", code, impl.OK)
	want(t, "SafeFrom", safe, setOf(12, 13, 21, 22))
	wantVisits(t, "who eats what", d.visits, visited(0, 0, 6), visited(0, 10, 2), visited(1, 23, 3))
	want(t, "what is left", impl.FieldText(d.after), "0 4 h t\n3 p 8 2\nt 3 0 6\n")
	days, code := impl.DaysSafe(d.f, d.scares, 12, 6)
	want(t, "fear wears off", [2]int64{days, code}, [2]int64{6, impl.OK})
	older, code := impl.AgeScares(d.f, d.scares, days)
	wantCode(t, "AgeScares", code, impl.OK)
	later := feedFarm(t, farm{d.f, older, d.flocks, d.o})
	wantVisits(t, "who eats what then", later.visits, visited(0, 23, 8), visited(1, 13, 2), visited(1, 12, 1))
}

// wantOneLoss goes through the chapter 6.
func wantOneLoss(t *testing.T, d fedFarm) {
	t.Helper()
	losses, code := impl.LossByOwner(d.f, d.after, d.o)
	wantCode(t, "LossByOwner", code, impl.OK)
	wantList(t, "LossByOwner", losses, 8, 3, 0, 0, 0, 0, 0, 0, 0, 0)
	shares, code := impl.SharesOf(losses, 100)
	wantCode(t, "SharesOf", code, impl.OK)
	wantList(t, "SharesOf", shares, 73, 27, 0, 0, 0, 0, 0, 0, 0, 0)
	cell, loss, code := impl.WorstCell(d.f, d.after)
	want(t, "WorstCell", [3]int64{cell, loss, code}, [3]int64{0, 6, impl.OK})
	bare, code := impl.BareCells(d.f, d.after)
	wantCode(t, "BareCells", code, impl.OK)
	want(t, "BareCells", bare, setOf(0))
	guess, code := impl.GuessLoss(d.f, d.after, setOf(0, 10))
	want(t, "GuessLoss", [2]int64{guess, code}, [2]int64{32, impl.OK})
	claims := []int64{9, 3, 1, 0, 0, 0, 0, 0, 0, 0}
	untrue, code := impl.FalseClaims(d.f, d.after, d.o, claims)
	wantCode(t, "FalseClaims", code, impl.OK)
	wantList(t, "FalseClaims", untrue, 0, 2)
}

// wantOneGuard goes through the chapters 4 and 5: nets and watchers are where flocks would go.
func wantOneGuard(t *testing.T, d fedFarm) {
	t.Helper()
	nets, cost, code := impl.CheapestNets(d.f, impl.Prices{Base: 5, Cell: 1}, setOf(0, 1, 10, 23), impl.MaxTries)
	wantCode(t, "CheapestNets", code, impl.OK)
	want(t, "CheapestNets", impl.NetsText(nets), "0,0:2x2 3,2:1x1")
	want(t, "their cost", cost, 15)
	covered, code := impl.CoveredBy(d.f, nets)
	wantCode(t, "CoveredBy", code, impl.OK)
	fears := d.fears
	for n := range int64(100) {
		if isIn(covered, n) {
			fears[n] = 1000
		}
	}
	after, visits, code := impl.FeedAll(d.f, fears, d.flocks)
	wantCode(t, "FeedAll", code, impl.OK)
	wantVisits(t, "no flock goes anywhere", visits)
	diary, code := impl.DiaryOf(d.f, after)
	wantCode(t, "DiaryOf", code, impl.OK)
	wantEntries(t, "nothing is to be told", diary)
	beat, code := impl.ShortestBeat(d.f, 11, 1, []int64{0, 10, 23})
	wantCode(t, "ShortestBeat", code, impl.OK)
	wantBeat(t, "ShortestBeat", beat, 11, 1, 11, 12, 13, 12)
}

// wantOneHarvest goes through the chapter 7, and tells the whole year.
func wantOneHarvest(t *testing.T, d fedFarm) {
	t.Helper()
	plots, code := impl.PlotsOf(d.after, 0, 3, 1)
	wantCode(t, "PlotsOf", code, impl.OK)
	plan, worth, code := impl.BestPlan(plots, 1, 4)
	wantPlan(t, "BestPlan", plan, worth, code, []int64{0, -1, 1, -1, -1, 2}, 15)
	bound, code := impl.WorthBound(plots, 4)
	want(t, "WorthBound", [2]int64{bound, code}, [2]int64{26, impl.OK})
	hands, code := impl.HandsFor(plots, 4, 23)
	want(t, "HandsFor", [2]int64{hands, code}, [2]int64{3, impl.OK})
	_, code = impl.HandsFor(plots, 4, 24)
	wantCode(t, "HandsFor one more", code, impl.ErrNotFound)
	bare := d.f
	bare.Seeds = [100]int16{}
	year := "sow 0 6\nsow 1 4\nsow 10 5\nsow 12 8\nsow 13 2\nsow 21 3\nsow 23 9\n" +
		"eat 0 6\neat 10 2\neat 23 3\n" +
		"take 1 4\nfall 10 3\ntake 12 7\nfall 12 1\nfall 13 2\nfall 21 3\ntake 23 4\nfall 23 2\n"
	diary, code := impl.ReadDiary(year)
	wantCode(t, "ReadDiary", code, impl.OK)
	sowing, code := impl.DiaryOf(bare, d.f)
	wantCode(t, "DiaryOf", code, impl.OK)
	wantEntries(t, "what is sown", diary[:7], sowing...)
	wantEntries(t, "what is eaten", diary[7:10], d.eatingDiary()...)
	end, sums, code := impl.ReplayDiary(bare, diary)
	wantCode(t, "ReplayDiary", code, impl.OK)
	want(t, "the field is bare again", end, bare)
	want(t, "sown, eaten, harvested and fallen", sums, [4]int64{37, 11, 15, 11})
}
