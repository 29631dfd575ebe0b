package tests

import (
	"slices"
	"testing"

	"loop.example/g01338/impl"
)

func TestBirdConstants(t *testing.T) {
	want(t, "limits", [3]int64{impl.MaxFlocks, impl.MaxVisits, impl.MaxFeeding}, [3]int64{12, 4, 60})
	want(t, "tastes", [3]int64{impl.TaSeeds, impl.TaNear, impl.TaCalm}, [3]int64{0, 1, 2})
}

func TestCalmFears(t *testing.T) {
	want(t, "CalmFears", impl.CalmFears(), impl.Fears{})
	for _, f := range someFields() {
		want(t, "calm fears", impl.ValidFears(f, impl.CalmFears()), true)
	}
}

func TestValidFears(t *testing.T) {
	f := birdField(t)
	for name, fears := range brokenFears() {
		want(t, name, impl.ValidFears(f, fears), false)
	}
	for _, n := range []int{0, 1, 3, 10, 12, 13} {
		for _, fear := range []int16{0, 1, 999, 1000} {
			want(t, "fears of a cell", impl.ValidFears(f, fearsWith(n, fear)), true)
		}
	}
	full, _ := impl.PlainField(10, 10, 0)
	var most impl.Fears
	for n := range most {
		most[n] = 1000
	}
	want(t, "the greatest fears everywhere", impl.ValidFears(full, most), true)
	want(t, "the greatest fears everywhere, of a small field", impl.ValidFears(f, most), false)
	for _, w := range someWorlds() {
		want(t, "fears of a world", impl.ValidFears(w.f, w.fears), true)
	}
	for name, broken := range brokenFields() {
		want(t, "fears of a field with "+name, impl.ValidFears(broken, impl.Fears{}), false)
	}
}

func TestValidFlocks(t *testing.T) {
	f, good := birdField(t), goodFlock()
	for name, b := range brokenFlocks() {
		want(t, name, impl.ValidFlocks(f, []impl.Flock{b}), false)
		want(t, name+", first", impl.ValidFlocks(f, []impl.Flock{b, good}), false)
		want(t, name+", last", impl.ValidFlocks(f, []impl.Flock{good, good, b}), false)
	}
	least := impl.Flock{Tree: 3}
	most := impl.Flock{Tree: 10, Birds: 200, Eats: 20, Bold: 1000, Reach: 200, Taste: 2}
	want(t, "the least and the greatest numbers", impl.ValidFlocks(f, []impl.Flock{least, most}), true)
	want(t, "two flocks in one tree", impl.ValidFlocks(f, []impl.Flock{good, good}), true)
	want(t, "no flocks", impl.ValidFlocks(f, nil), true)
	want(t, "MaxFlocks", impl.ValidFlocks(f, flocksOf(good, 12)), true)
	want(t, "more than MaxFlocks", impl.ValidFlocks(f, flocksOf(good, 13)), false)
	want(t, "a million", impl.ValidFlocks(f, make([]impl.Flock, 1000000)), false)
	corner := impl.Field{Wide: 10, High: 10}
	corner.Kinds[99], corner.Kinds[0] = impl.KiTree, impl.KiTree
	want(t, "the last and the first tree", impl.ValidFlocks(corner, []impl.Flock{{Tree: 99}, {Tree: 0}}), true)
	for _, w := range someWorlds() {
		want(t, "flocks of a world", impl.ValidFlocks(w.f, w.list), true)
	}
	for name, broken := range brokenFields() {
		want(t, "no flocks of a field with "+name, impl.ValidFlocks(broken, nil), false)
	}
	broken := f
	broken.Seeds[0] = -1
	want(t, "a flock of a field that is not valid", impl.ValidFlocks(broken, []impl.Flock{good}), false)
}

func TestSameFlocks(t *testing.T) {
	good := goodFlock()
	want(t, "nil and empty", impl.SameFlocks(nil, []impl.Flock{}), true)
	want(t, "none and one", impl.SameFlocks(nil, []impl.Flock{good}), false)
	want(t, "one and none", impl.SameFlocks([]impl.Flock{good}, nil), false)
	want(t, "one and two", impl.SameFlocks(flocksOf(good, 1), flocksOf(good, 2)), false)
	want(t, "more than MaxFlocks", impl.SameFlocks(flocksOf(good, 20), flocksOf(good, 20)), true)
	for name, b := range brokenFlocks() {
		want(t, name+" and itself", impl.SameFlocks([]impl.Flock{good, b}, []impl.Flock{good, b}), true)
		want(t, name+" and a valid one", impl.SameFlocks([]impl.Flock{good, b}, []impl.Flock{good, good}), false)
		want(t, name+" in another order", impl.SameFlocks([]impl.Flock{good, b}, []impl.Flock{b, good}), false)
	}
}

func TestTreeFor(t *testing.T) {
	for _, f := range someFields() {
		for n := range int64(100) {
			best := int64(-1)
			for tree := range int64(100) {
				if isCell(f, tree) && f.Kinds[tree] == impl.KiTree && (best < 0 || squareTo(n, tree) < squareTo(n, best)) {
					best = tree
				}
			}
			wanted := [2]int64{best, impl.OK}
			if !isCell(f, n) {
				wanted = [2]int64{0, impl.ErrRange}
			} else if best < 0 {
				wanted = [2]int64{0, impl.ErrNotFound}
			}
			tree, code := impl.TreeFor(f, n)
			want(t, "TreeFor", [2]int64{tree, code}, wanted)
		}
	}
}

func TestTreeForOfSeveral(t *testing.T) {
	f := fieldOf(t, "0 t 0", "t 0 t", "0 t 0")
	for cell, wanted := range map[int64]int64{0: 1, 1: 1, 2: 1, 10: 10, 11: 1, 12: 12, 20: 10, 21: 21, 22: 12} {
		tree, code := impl.TreeFor(f, cell)
		want(t, "TreeFor", [2]int64{tree, code}, [2]int64{wanted, impl.OK})
	}
	bare := fieldOf(t, "0 h", "p 0")
	for cell, wanted := range map[int64]int64{0: impl.ErrNotFound, 11: impl.ErrNotFound, 2: impl.ErrRange, 20: impl.ErrRange, -1: impl.ErrRange} {
		tree, code := impl.TreeFor(bare, cell)
		want(t, "TreeFor without trees", [2]int64{tree, code}, [2]int64{0, wanted})
	}
}

func TestHungerOf(t *testing.T) {
	f := birdField(t)
	for _, birds := range []int16{0, 1, 7, 199, 200} {
		for _, eats := range []int16{0, 1, 3, 20} {
			hunger, code := impl.HungerOf(f, impl.Flock{Tree: 10, Birds: birds, Eats: eats})
			want(t, "HungerOf", [2]int64{hunger, code}, [2]int64{int64(birds) * int64(eats), impl.OK})
		}
	}
}

func TestBirdsIn(t *testing.T) {
	f, crowd := birdField(t), goodFlock()
	crowd.Birds = 200
	for count, wanted := range map[int]int64{0: 0, 1: 200, 12: 2400} {
		birds, code := impl.BirdsIn(f, flocksOf(crowd, count))
		want(t, "BirdsIn", [2]int64{birds, code}, [2]int64{wanted, impl.OK})
	}
	other := impl.Flock{Tree: 3, Birds: 7}
	birds, code := impl.BirdsIn(f, []impl.Flock{crowd, other, {Tree: 3}})
	want(t, "BirdsIn of several", [2]int64{birds, code}, [2]int64{207, impl.OK})
}

func TestMoveFlock(t *testing.T) {
	f, good := birdField(t), goodFlock()
	list := []impl.Flock{good, {Tree: 3, Birds: 1, Eats: 2, Bold: 3, Reach: 4, Taste: 1}, good}
	cases := []struct {
		name        string
		flock, tree int64
		code        int64
	}{
		{"another tree", 0, 3, impl.OK},
		{"the last flock", 2, 3, impl.OK},
		{"the tree of another flock", 1, 10, impl.OK},
		{"its own tree", 1, 3, impl.OK},
		{"soil", 0, 0, impl.ErrState},
		{"a hedge", 1, 1, impl.ErrState},
		{"a path", 2, 13, impl.ErrState},
		{"no flock", 3, 3, impl.ErrRange},
		{"no flock, less than 0", -1, 3, impl.ErrRange},
		{"no flock, far", 1 << 32, 3, impl.ErrRange},
		{"no cell, east", 0, 4, impl.ErrRange},
		{"no cell, south", 0, 20, impl.ErrRange},
		{"no cell, less than 0", 0, -1, impl.ErrRange},
		{"no cell, a tree and 65536", 0, 65539, impl.ErrRange},
		{"ErrRange before ErrState", 3, 0, impl.ErrRange},
	}
	for _, c := range cases {
		moved, code := impl.MoveFlock(f, list, c.flock, c.tree)
		wantCode(t, c.name, code, c.code)
		if c.code != impl.OK {
			want(t, c.name, len(moved), 0)
			continue
		}
		wanted := slices.Clone(list)
		wanted[c.flock].Tree = int16(c.tree)
		want(t, c.name, moved, wanted)
	}
	_, code := impl.MoveFlock(f, nil, 0, 10)
	wantCode(t, "MoveFlock of no flocks", code, impl.ErrRange)
	moved, code := impl.MoveFlock(f, flocksOf(good, 12), 11, 3)
	wantCode(t, "MoveFlock of MaxFlocks", code, impl.OK)
	want(t, "MoveFlock of MaxFlocks", [2]int16{moved[10].Tree, moved[11].Tree}, [2]int16{10, 3})
}

func TestSplitFlock(t *testing.T) {
	f, good := birdField(t), goodFlock()
	good.Birds = 200
	other := impl.Flock{Tree: 3, Birds: 1, Eats: 2, Bold: 3, Reach: 4, Taste: 1}
	none := impl.Flock{Tree: 3}
	list := []impl.Flock{good, other, none}
	cases := []struct {
		name         string
		flock, birds int64
		code         int64
	}{
		{"some", 0, 150, impl.OK},
		{"none", 0, 0, impl.OK},
		{"all", 0, 200, impl.OK},
		{"the only one", 1, 1, impl.OK},
		{"none of none", 2, 0, impl.OK},
		{"one too many", 0, 201, impl.ErrRange},
		{"one of none", 2, 1, impl.ErrRange},
		{"more than its own", 1, 2, impl.ErrRange},
		{"less than none", 0, -1, impl.ErrRange},
		{"as many as 2 to the 16", 0, 65536, impl.ErrRange},
		{"no flock", 3, 0, impl.ErrRange},
		{"no flock, less than 0", -1, 0, impl.ErrRange},
		{"no flock, far", 1 << 32, 0, impl.ErrRange},
	}
	for _, c := range cases {
		split, code := impl.SplitFlock(f, list, c.flock, c.birds)
		wantCode(t, c.name, code, c.code)
		if c.code != impl.OK {
			want(t, c.name, len(split), 0)
			continue
		}
		wanted := append(slices.Clone(list), list[c.flock])
		wanted[c.flock].Birds -= int16(c.birds)
		wanted[3].Birds = int16(c.birds)
		want(t, c.name, split, wanted)
		want(t, c.name, impl.ValidFlocks(f, split), true)
		before, _ := impl.BirdsIn(f, list)
		after, _ := impl.BirdsIn(f, split)
		want(t, "birds behind SplitFlock", after, before)
	}
}

func TestSplitFlockAtTheLimit(t *testing.T) {
	f, good := birdField(t), goodFlock()
	split, code := impl.SplitFlock(f, flocksOf(good, 11), 10, 2)
	wantCode(t, "up to MaxFlocks", code, impl.OK)
	want(t, "up to MaxFlocks", len(split), 12)
	cases := []struct {
		name         string
		flock, birds int64
		code         int64
	}{
		{"more than MaxFlocks", 0, 1, impl.ErrLimit},
		{"more than MaxFlocks, by none", 11, 0, impl.ErrLimit},
		{"birds before ErrLimit", 0, 3, impl.ErrRange},
		{"birds less than none before ErrLimit", 0, -1, impl.ErrRange},
		{"no flock before ErrLimit", 12, 1, impl.ErrRange},
	}
	for _, c := range cases {
		split, code := impl.SplitFlock(f, flocksOf(good, 12), c.flock, c.birds)
		wantCode(t, c.name, code, c.code)
		want(t, c.name, len(split), 0)
	}
	_, code = impl.SplitFlock(f, nil, 0, 0)
	wantCode(t, "SplitFlock of no flocks", code, impl.ErrRange)
}
