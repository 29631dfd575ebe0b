package tests

import (
	"testing"

	"loop.example/g01338/impl"
)

// birdsFor makes a flock that is hungry enough for a cell, bold, and reaches everything.
func birdsFor(tree int16, taste int8) impl.Flock {
	return impl.Flock{Tree: tree, Birds: 1, Eats: 20, Bold: 1000, Reach: 200, Taste: taste}
}

func TestExampleOfChapter2(t *testing.T) {
	f := fieldOf(t, "3 h 5", "t 2 0")
	b := impl.Flock{Tree: 10, Birds: 2, Eats: 3, Bold: 5, Reach: 200, Taste: impl.TaSeeds}
	near := b
	near.Taste = impl.TaNear
	rich, code := impl.ChoiceOf(f, impl.CalmFears(), b)
	want(t, "by TaSeeds", [2]int64{rich, code}, [2]int64{2, impl.OK})
	nearest, code := impl.ChoiceOf(f, impl.CalmFears(), near)
	want(t, "by TaNear", [2]int64{nearest, code}, [2]int64{0, impl.OK})
	left, visits, code := impl.FeedFlock(f, impl.CalmFears(), b)
	wantCode(t, "FeedFlock", code, impl.OK)
	wantVisits(t, "FeedFlock", visits, visited(0, 2, 5), visited(0, 0, 1))
	want(t, "FeedFlock", impl.FieldText(left), "2 h 0\nt 2 0\n")
	afraid := fearsWith(2, 6)
	left, visits, code = impl.FeedFlock(f, afraid, b)
	wantCode(t, "FeedFlock, afraid", code, impl.OK)
	wantVisits(t, "FeedFlock, afraid", visits, visited(0, 0, 3), visited(0, 11, 2))
	want(t, "FeedFlock, afraid", impl.FieldText(left), "0 h 5\nt 0 0\n")
	hungry, code := impl.StillHungry(f, afraid, []impl.Flock{b})
	wantCode(t, "StillHungry", code, impl.OK)
	wantList(t, "StillHungry", hungry, 0)
	b.Reach = 1
	cells, code := impl.CellsFor(f, impl.CalmFears(), b)
	wantCode(t, "CellsFor with the reach 1", code, impl.OK)
	want(t, "CellsFor with the reach 1", cells, setOf(0, 11))
}

// Each rule of each taste decides once, against what all the rules behind it would choose.
func TestChoiceOfSeveral(t *testing.T) {
	cases := []struct {
		name   string
		rows   []string
		fears  impl.Fears
		tree   int16
		taste  int8
		choice int64
	}{
		{"seeds: the most", []string{"t 3 5"}, impl.Fears{}, 0, impl.TaSeeds, 2},
		{"seeds: the most, afraid there", []string{"t 3 5"}, impl.Fears{2: 1000}, 0, impl.TaSeeds, 2},
		{"seeds: then the nearest", []string{"5 0 t 5"}, impl.Fears{}, 2, impl.TaSeeds, 3},
		{"seeds: then the nearest, afraid there", []string{"5 0 t 5"}, impl.Fears{3: 9}, 2, impl.TaSeeds, 3},
		{"seeds: then the least number", []string{"4 5 4", "5 t 5", "4 5 4"}, impl.Fears{}, 11, impl.TaSeeds, 1},
		{"seeds: then the least number, afraid there", []string{"4 5 4", "5 t 5", "4 5 4"}, impl.Fears{1: 9}, 11, impl.TaSeeds, 1},
		{"near: the nearest", []string{"9 0 t 1"}, impl.Fears{}, 2, impl.TaNear, 3},
		{"near: the nearest, afraid there", []string{"9 0 t 1"}, impl.Fears{3: 1000}, 2, impl.TaNear, 3},
		{"near: the nearest with seeds", []string{"t 0 h 2 9"}, impl.Fears{}, 0, impl.TaNear, 3},
		{"near: then the most seeds", []string{"3 t 5"}, impl.Fears{}, 1, impl.TaNear, 2},
		{"near: then the most seeds, afraid there", []string{"3 t 5"}, impl.Fears{2: 9}, 1, impl.TaNear, 2},
		{"near: then the least number", []string{"9 5 9", "5 t 5", "9 5 9"}, impl.Fears{}, 11, impl.TaNear, 1},
		{"near: then the least number, afraid there", []string{"9 5 9", "5 t 5", "9 5 9"}, impl.Fears{1: 9}, 11, impl.TaNear, 1},
		{"calm: the least fear", []string{"9 t 0 1"}, impl.Fears{0: 1}, 1, impl.TaCalm, 3},
		{"calm: the least fear of some", []string{"9 t 8 1"}, impl.Fears{0: 7, 2: 6, 3: 5}, 1, impl.TaCalm, 3},
		{"calm: then the most seeds", []string{"3 t 0 5"}, impl.Fears{0: 2, 3: 2}, 1, impl.TaCalm, 3},
		{"calm: then the nearest", []string{"5 0 t 5"}, impl.Fears{}, 2, impl.TaCalm, 3},
		{"calm: then the least number", []string{"4 5 4", "5 t 5", "9 5 9"}, impl.Fears{20: 1, 22: 1}, 11, impl.TaCalm, 1},
		{"calm: a cell without seeds is calmer", []string{"0 t 5"}, impl.Fears{2: 1}, 1, impl.TaCalm, 2},
	}
	for _, c := range cases {
		f := fieldOf(t, c.rows...)
		choice, code := impl.ChoiceOf(f, c.fears, birdsFor(c.tree, c.taste))
		want(t, c.name, [2]int64{choice, code}, [2]int64{c.choice, impl.OK})
	}
}

// The numbers of cells go by rows: a cell in the north comes before one in the west.
func TestChoiceByNumber(t *testing.T) {
	f := fieldOf(t, "0 0 7", "0 t 0", "7 0 7")
	for taste := range int8(3) {
		choice, code := impl.ChoiceOf(f, impl.CalmFears(), birdsFor(11, taste))
		want(t, "the least number", [2]int64{choice, code}, [2]int64{2, impl.OK})
	}
}

// P4: a flock goes to no cell where it is afraid, or that it cannot reach, and to all others with seeds.
func TestP4CellsForAndChoiceOf(t *testing.T) {
	for _, w := range someWorlds() {
		for _, b := range w.list {
			var wanted []int
			for n := range int64(100) {
				if goesTo(w, b, n) {
					wanted = append(wanted, int(n))
				}
			}
			cells, code := impl.CellsFor(w.f, w.fears, b)
			wantCode(t, "CellsFor", code, impl.OK)
			want(t, "CellsFor", cells, setOf(wanted...))
			choice, code := impl.ChoiceOf(w.f, w.fears, b)
			if len(wanted) == 0 {
				want(t, "ChoiceOf nothing", [2]int64{choice, code}, [2]int64{0, impl.ErrNotFound})
			} else {
				want(t, "ChoiceOf", [2]int64{choice, code}, [2]int64{choiceIn(w, b), impl.OK})
			}
		}
	}
}

// P4: what is eaten in some days is eaten where a flock may go.
func TestP4VisitsAreWhereFlocksGo(t *testing.T) {
	for _, w := range someWorlds() {
		_, visits, code := impl.FeedAll(w.f, w.fears, w.list)
		wantCode(t, "FeedAll", code, impl.OK)
		for _, v := range visits {
			want(t, "FeedAll goes there", goesTo(w, w.list[v.Flock], int64(v.Cell)), true)
		}
		for _, b := range w.list {
			_, visits, _ := impl.FeedFlock(w.f, w.fears, b)
			for _, v := range visits {
				want(t, "FeedFlock goes there", goesTo(w, b, int64(v.Cell)), true)
			}
			_, visit, code := impl.EatOnce(w.f, w.fears, b)
			want(t, "EatOnce goes there", code != impl.OK || goesTo(w, b, int64(visit.Cell)), true)
		}
		behind, _, _ := impl.FeedDays(w.f, w.fears, w.list, impl.MaxFeeding)
		safe, _ := impl.SafeFrom(w.f, w.fears, w.list)
		for n := range int64(100) {
			if isIn(safe, n) {
				want(t, "seeds of safe cells", behind.Seeds[n], w.f.Seeds[n])
			}
		}
	}
}

// P4: fears of 0, of Bold, and of Bold and 1.
func TestP4FearsAndBold(t *testing.T) {
	f := fieldOf(t, "t 4 4 4")
	b := birdsFor(0, impl.TaSeeds)
	for _, bold := range []int16{0, 1, 5, 998, 999} {
		b.Bold = bold
		fears := impl.Fears{1: bold + 1, 2: bold}
		cells, code := impl.CellsFor(f, fears, b)
		wantCode(t, "CellsFor", code, impl.OK)
		want(t, "CellsFor", cells, setOf(2, 3))
		choice, code := impl.ChoiceOf(f, fears, b)
		want(t, "ChoiceOf", [2]int64{choice, code}, [2]int64{2, impl.OK})
		_, visit, code := impl.EatOnce(f, fears, b)
		wantCode(t, "EatOnce", code, impl.OK)
		want(t, "EatOnce", visit, visited(0, 2, 4))
		everywhere := impl.Fears{1: bold + 1, 2: bold + 1, 3: bold + 1}
		cells, code = impl.CellsFor(f, everywhere, b)
		wantCode(t, "afraid everywhere", code, impl.OK)
		want(t, "afraid everywhere", cells, impl.Cells{})
		left, visits, code := impl.FeedFlock(f, everywhere, b)
		wantCode(t, "afraid everywhere", code, impl.OK)
		wantVisits(t, "afraid everywhere", visits)
		want(t, "afraid everywhere", left, f)
	}
	b.Bold = 1000
	cells, code := impl.CellsFor(f, impl.Fears{1: 1000, 2: 1000, 3: 1000}, b)
	wantCode(t, "afraid of nothing", code, impl.OK)
	want(t, "afraid of nothing", cells, setOf(1, 2, 3))
}

// P4: squares of Reach, and of Reach and 1.
func TestP4SquaresAndReach(t *testing.T) {
	f := fieldOf(t, "t 1 1 1", "1 1 1 1", "1 1 1 1")
	wanted := map[int16]impl.Cells{
		0: setOf(), 1: setOf(1, 10), 2: setOf(1, 10, 11), 3: setOf(1, 10, 11),
		4: setOf(1, 10, 11, 2, 20), 5: setOf(1, 10, 11, 2, 20, 12, 21), 7: setOf(1, 10, 11, 2, 20, 12, 21),
		8: setOf(1, 10, 11, 2, 20, 12, 21, 22), 12: setOf(1, 10, 11, 2, 20, 12, 21, 22, 3, 13),
		13: setOf(1, 10, 11, 2, 20, 12, 21, 22, 3, 13, 23), 200: setOf(1, 10, 11, 2, 20, 12, 21, 22, 3, 13, 23),
	}
	for reach, cells := range wanted {
		b := birdsFor(0, impl.TaSeeds)
		b.Reach = reach
		got, code := impl.CellsFor(f, impl.CalmFears(), b)
		wantCode(t, "CellsFor", code, impl.OK)
		want(t, "CellsFor", got, cells)
	}
	wide, _ := impl.PlainField(10, 10, 0)
	wide.Kinds[0], wide.Seeds[99] = impl.KiTree, 7
	for reach, wanted := range map[int16][2]int64{161: {0, impl.ErrNotFound}, 162: {99, impl.OK}} {
		b := birdsFor(0, impl.TaNear)
		b.Reach = reach
		choice, code := impl.ChoiceOf(wide, impl.CalmFears(), b)
		want(t, "from corner to corner", [2]int64{choice, code}, wanted)
	}
}

// Flocks that eat nothing have cells and a choice, too.
func TestChoiceOfFlocksThatEatNothing(t *testing.T) {
	f := fieldOf(t, "t 3 5")
	for _, b := range []impl.Flock{{Tree: 0, Eats: 20, Reach: 200}, {Tree: 0, Birds: 200, Reach: 200}, {Tree: 0, Reach: 200}} {
		cells, code := impl.CellsFor(f, impl.CalmFears(), b)
		wantCode(t, "CellsFor", code, impl.OK)
		want(t, "CellsFor", cells, setOf(1, 2))
		choice, code := impl.ChoiceOf(f, impl.CalmFears(), b)
		want(t, "ChoiceOf", [2]int64{choice, code}, [2]int64{2, impl.OK})
		safe, code := impl.SafeFrom(f, impl.CalmFears(), []impl.Flock{b})
		wantCode(t, "SafeFrom", code, impl.OK)
		want(t, "SafeFrom", safe, impl.Cells{})
	}
}

// P4: the cells that are safe are the soil to which no flock would go.
func TestP4SafeFrom(t *testing.T) {
	for _, w := range someWorlds() {
		var wanted []int
		for n := range int64(100) {
			safe := isCell(w.f, n) && w.f.Kinds[n] == impl.KiSoil
			for _, b := range w.list {
				safe = safe && !goesTo(w, b, n)
			}
			if safe {
				wanted = append(wanted, int(n))
			}
		}
		cells, code := impl.SafeFrom(w.f, w.fears, w.list)
		wantCode(t, "SafeFrom", code, impl.OK)
		want(t, "SafeFrom", cells, setOf(wanted...))
	}
	f := birdField(t)
	fears := fearsWith(2, 6)
	for _, count := range []int{1, 2, 12} {
		cells, code := impl.SafeFrom(f, fears, flocksOf(goodFlock(), count))
		wantCode(t, "SafeFrom", code, impl.OK)
		want(t, "SafeFrom", cells, setOf(2, 12))
	}
	cells, code := impl.SafeFrom(f, fears, nil)
	wantCode(t, "SafeFrom no flocks", code, impl.OK)
	want(t, "SafeFrom no flocks", cells, setOf(0, 2, 11, 12))
}
