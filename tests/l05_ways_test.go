package tests

import (
	"math/rand/v2"
	"slices"
	"testing"

	"loop.example/g01338/impl"
)

func TestWayBetween(t *testing.T) {
	f, full := beatField(t), plainField(t, 10, 10)
	for _, c := range []struct {
		name     string
		f        impl.Field
		from, to int64
		way      []int64
	}{
		{"from a cell to itself", f, 22, 22, []int64{22}},
		{"from a path to itself", f, 1, 1, []int64{1}},
		{"to a neighbour", f, 0, 1, []int64{0, 1}},
		{"back from it", f, 1, 0, []int64{1, 0}},
		{"east of a tree, as the way there comes first", f, 1, 23, []int64{1, 2, 3, 13, 23}},
		{"round a hedge", f, 0, 20, []int64{0, 1, 11, 21, 20}},
		{"two ways round a tree", f, 11, 13, []int64{11, 1, 2, 3, 13}},
		{"two ways back round it", f, 13, 11, []int64{13, 3, 2, 1, 11}},
		{"from west to east", full, 0, 9, []int64{0, 1, 2, 3, 4, 5, 6, 7, 8, 9}},
		{"first east, then south", full, 0, 22, []int64{0, 1, 2, 12, 22}},
		{"first north, then west", full, 22, 0, []int64{22, 12, 2, 1, 0}},
		{"first west, then south", full, 2, 20, []int64{2, 1, 0, 10, 20}},
		{"first north, then east", full, 20, 2, []int64{20, 10, 0, 1, 2}},
		{"no step from the end of a row to the next one", full, 9, 10, []int64{9, 8, 7, 6, 5, 4, 3, 2, 1, 0, 10}},
		{"the last cell", full, 98, 99, []int64{98, 99}},
	} {
		way, code := impl.WayBetween(c.f, c.from, c.to)
		wantCode(t, c.name, code, impl.OK)
		wantList(t, c.name, way, c.way...)
	}
}

func TestErrorsOfWays(t *testing.T) {
	f := fieldOf(t, "3 h p", "p t 5", "h 2 h")
	for _, c := range []struct {
		name           string
		from, to, code int64
	}{
		{"no way", 0, 2, impl.ErrNotFound}, {"no way to a cell alone", 12, 21, impl.ErrNotFound}, {"no way from it", 21, 0, impl.ErrNotFound},
		{"from a hedge", 1, 0, impl.ErrState}, {"to a hedge", 0, 1, impl.ErrState}, {"from a tree", 11, 10, impl.ErrState}, {"to a tree", 10, 11, impl.ErrState},
		{"from a hedge to itself", 1, 1, impl.ErrState}, {"from a tree to itself", 11, 11, impl.ErrState}, {"from a hedge to a tree", 1, 11, impl.ErrState},
		{"from a hedge to no cell", 1, 3, impl.ErrRange}, {"from no cell to a tree", 30, 11, impl.ErrRange},
		{"from no cell to itself", 99, 99, impl.ErrRange}, {"to -1", 0, -1, impl.ErrRange}, {"from -1", -1, 0, impl.ErrRange},
	} {
		way, code := impl.WayBetween(f, c.from, c.to)
		wantCode(t, c.name, code, c.code)
		wantList(t, c.name, way)
	}
	for _, n := range farNumbers {
		_, code := impl.WayBetween(f, 0, n)
		want(t, "to a number", code == impl.ErrRange, !isCell(f, n))
		_, code = impl.WayBetween(f, n, 0)
		want(t, "from a number", code == impl.ErrRange, !isCell(f, n))
	}
}

func TestWaysAreAsTold(t *testing.T) {
	r := rand.New(rand.NewPCG(15, 16))
	for _, f := range someFields() {
		for _, f := range []impl.Field{f, openedUp(r, f)} {
			for range 25 {
				from, to := int64(r.IntN(int(f.High))*10+r.IntN(int(f.Wide))), int64(r.IntN(int(f.High))*10+r.IntN(int(f.Wide)))
				way, code := impl.WayBetween(f, from, to)
				if !canStand(f, from) || !canStand(f, to) {
					wantCode(t, "neither soil nor path", code, impl.ErrState)
					continue
				}
				wanted := wayIn(f, from, to)
				if wanted == nil {
					wantCode(t, "no way", code, impl.ErrNotFound)
					continue
				}
				wantCode(t, "a way", code, impl.OK)
				wantList(t, "a way", way, wanted...)
			}
		}
	}
}

// A long way has more cells than beats can have.
func TestLongWays(t *testing.T) {
	f := snake(t)
	way, code := impl.WayBetween(f, 0, 89)
	wantCode(t, "from end to end", code, impl.OK)
	want(t, "from end to end", len(way), 54)
	wantList(t, "from end to end", way, snakeCells()...)
	way, code = impl.WayBetween(f, 89, 0)
	wantCode(t, "and back", code, impl.OK)
	slices.Reverse(way)
	wantList(t, "and back", way, snakeCells()...)
}

// snake is a field with one long way, from north to south, between hedges.
func snake(t *testing.T) impl.Field {
	t.Helper()
	const wall, open = "h h h h h h h h h", "5 p 5 p 5 p 5 p 5 p"
	return fieldOf(t, open, wall+" 5", open, "5 "+wall, open, wall+" p", open, "p "+wall, open, "t t t t t t t t t t")
}

// snakeCells are the cells of the snake, from its first one to its last one.
func snakeCells() []int64 {
	var cells []int64
	for y := range int64(9) {
		for x := range int64(10) {
			switch y % 4 {
			case 0:
				cells = append(cells, x+10*y)
			case 2:
				cells = append(cells, 9-x+10*y)
			case 1:
				if x == 9 {
					cells = append(cells, 9+10*y)
				}
			case 3:
				if x == 0 {
					cells = append(cells, 10*y)
				}
			}
		}
	}
	return cells
}

func TestShortestBeat(t *testing.T) {
	f, full := beatField(t), plainField(t, 10, 10)
	for _, c := range []struct {
		name         string
		f            impl.Field
		start, sight int64
		targets      []int64
		shortest     impl.Beat
	}{
		{"no targets", f, 22, 0, nil, impl.Beat{22}},
		{"no targets, an empty list", f, 1, 50, []int64{}, impl.Beat{1}},
		{"the start itself", f, 22, 0, []int64{22}, impl.Beat{22}},
		{"the start, six times", f, 22, 0, []int64{22, 22, 22, 22, 22, 22}, impl.Beat{22}},
		{"a neighbour", f, 22, 0, []int64{23}, impl.Beat{22, 23}},
		{"two neighbours", f, 22, 0, []int64{23, 21}, impl.Beat{22, 21, 22, 23}},
		{"a hedge beside the start", f, 0, 1, []int64{10}, impl.Beat{0}},
		{"a hedge", f, 1, 1, []int64{10}, impl.Beat{1, 0}},
		{"a tree", f, 0, 1, []int64{12}, impl.Beat{0, 1, 2, 1}},
		{"there and back, or round", f, 11, 0, []int64{13}, impl.Beat{11, 1, 2, 3, 13, 3, 2, 1}},
		{"round a tree", f, 1, 0, []int64{2, 3, 13, 23, 22, 21}, impl.Beat{1, 2, 3, 13, 23, 22, 21, 11}},
		{"one that comes twice", f, 1, 0, []int64{3, 3, 11}, impl.Beat{1, 2, 3, 2, 1, 11}},
		{"a target beside the way of another one", full, 0, 0, []int64{11, 12}, impl.Beat{0, 1, 2, 12, 11, 1}},
		{"one of several that comes first", full, 44, 0, []int64{55}, impl.Beat{44, 45, 55, 45}},
		{"one of several corners", full, 55, 0, []int64{44}, impl.Beat{55, 45, 44, 45}},
		{"a square", full, 0, 0, []int64{11}, impl.Beat{0, 1, 11, 1}},
		{"all is seen from anywhere", full, 44, 50, []int64{0, 9, 90, 99, 55}, impl.Beat{44}},
		{"one corner is not seen", full, 33, 50, []int64{99}, impl.Beat{33, 34, 44, 34}},
		{"corners", full, 0, 0, []int64{9, 90}, impl.Beat{
			0, 1, 2, 3, 4, 5, 6, 7, 8, 9, 8, 7, 6, 5, 4, 3, 2, 1, 0, 10, 20, 30, 40, 50, 60, 70, 80, 90, 80, 70, 60, 50, 40, 30, 20, 10,
		}},
	} {
		shortest, code := impl.ShortestBeat(c.f, c.start, c.sight, c.targets)
		wantCode(t, c.name, code, impl.OK)
		wantBeat(t, c.name, shortest, c.shortest...)
	}
}

func TestShortestBeatOfMaxBeat(t *testing.T) {
	f, cells := snake(t), snakeCells()
	for i, target := range cells {
		shortest, code := impl.ShortestBeat(f, 0, 0, []int64{target})
		if i > 20 {
			wantCode(t, "too far", code, impl.ErrNotFound)
			wantBeat(t, "too far", shortest)
			continue
		}
		wantCode(t, "there and back", code, impl.OK)
		want(t, "there and back", len(shortest), max(1, 2*i))
		want(t, "there", shortest[i], int16(target))
	}
	longest, code := impl.ShortestBeat(f, cells[0], 0, cells[15:21])
	wantCode(t, "MaxBeat cells", code, impl.OK)
	wantBeat(t, "MaxBeat cells", longest, beatOf(slices.Concat(cells[:21], reversed(cells[1:20]))...)...)
	longest, code = impl.ShortestBeat(f, cells[10], 0, []int64{cells[0], cells[20]})
	wantCode(t, "MaxBeat cells, to both sides", code, impl.OK)
	wantBeat(t, "MaxBeat cells, to both sides", longest, beatOf(slices.Concat(reversed(cells[:11]), cells[1:21], reversed(cells[11:20]))...)...)
	_, code = impl.ShortestBeat(f, cells[10], 0, []int64{cells[0], cells[21]})
	wantCode(t, "one more", code, impl.ErrNotFound)
	_, code = impl.ShortestBeat(f, cells[10], 1, []int64{cells[0], cells[21]})
	wantCode(t, "one more, with sight 1", code, impl.OK)
	ring := plainField(t, 10, 10)
	longest, code = impl.ShortestBeat(ring, 0, 0, []int64{9, 99, 90, 2, 29})
	wantCode(t, "round a field", code, impl.OK)
	want(t, "round a field", len(longest), 36)
	longest, code = impl.ShortestBeat(ring, 0, 0, []int64{9, 99, 90, 81, 18})
	wantCode(t, "round a field, and aside", code, impl.OK)
	want(t, "round a field, and aside", len(longest), 40)
	_, code = impl.ShortestBeat(ring, 0, 0, []int64{9, 99, 90, 81, 18, 54})
	wantCode(t, "round a field, and to its middle", code, impl.ErrNotFound)
}

func reversed(list []int64) []int64 {
	back := slices.Clone(list)
	slices.Reverse(back)
	return back
}

func TestErrorsOfShortestBeats(t *testing.T) {
	f := fieldOf(t, "3 h p", "p t 5", "h 2 h")
	seven := []int64{0, 0, 0, 0, 0, 0, 0}
	for _, c := range []struct {
		name                string
		start, sight        int64
		targets             []int64
		wanted, withoutOnes int64
	}{
		{"no way to a target", 0, 0, []int64{2}, impl.ErrNotFound, impl.OK},
		{"a tree with sight 0", 10, 0, []int64{11}, impl.ErrNotFound, impl.OK},
		{"a hedge with sight 0", 0, 0, []int64{0, 1}, impl.ErrNotFound, impl.OK},
		{"a start with a hedge", 1, 0, []int64{0}, impl.ErrState, impl.ErrState},
		{"a start with a tree", 11, 0, []int64{0}, impl.ErrState, impl.ErrState},
		{"a start with a tree, which is seen", 11, 50, []int64{11}, impl.ErrState, impl.ErrState},
		{"a start with a tree, and no way to a target", 11, 0, []int64{21, 2}, impl.ErrState, impl.ErrState},
		{"a start with a hedge, and too many targets", 1, 0, seven, impl.ErrLimit, impl.ErrState},
		{"too many targets", 0, 0, seven, impl.ErrLimit, impl.OK},
		{"too many targets, most of which have no way", 0, 0, []int64{0, 1, 2, 10, 11, 12, 20}, impl.ErrLimit, impl.OK},
		{"a million targets", 0, 0, make([]int64, 900000), impl.ErrLimit, impl.OK},
		{"too many targets, the last of which is no cell", 0, 0, append(slices.Clone(seven), 3), impl.ErrRange, impl.OK},
		{"no cell", 0, 0, []int64{3}, impl.ErrRange, impl.OK},
		{"no cell, behind one", 0, 0, []int64{0, 30}, impl.ErrRange, impl.OK},
		{"no cell, though it could be seen", 12, 50, []int64{13}, impl.ErrRange, impl.OK},
		{"no cell, and a start with a tree", 11, 0, []int64{-1}, impl.ErrRange, impl.ErrState},
		{"no start", 3, 0, seven, impl.ErrRange, impl.ErrRange},
		{"a start of -1", -1, 0, []int64{0}, impl.ErrRange, impl.ErrRange},
		{"no sight", 0, 51, seven, impl.ErrRange, impl.ErrRange},
		{"a sight of -1, and a start with a hedge", 1, -1, []int64{0}, impl.ErrRange, impl.ErrRange},
	} {
		shortest, code := impl.ShortestBeat(f, c.start, c.sight, c.targets)
		wantCode(t, c.name, code, c.wanted)
		wantBeat(t, c.name, shortest)
		_, code = impl.ShortestBeat(f, c.start, c.sight, nil)
		wantCode(t, c.name+", without its targets", code, c.withoutOnes)
	}
	shortest, code := impl.ShortestBeat(f, 0, 0, []int64{0, 10, 10, 0, 10, 0})
	wantCode(t, "MaxTargets targets", code, impl.OK)
	wantBeat(t, "MaxTargets targets", shortest, 0, 10)
}

// P11: shortest beats are as told, with as many targets as are allowed, and a shortest beat sees all of its targets.
func TestP11ShortestBeatsAreAsTold(t *testing.T) {
	r := rand.New(rand.NewPCG(17, 18))
	found, missed := 0, 0
	for _, s := range someBeatScenes() {
		for _, s.sight = range []int64{0, 0, 1, s.sight} {
			targets := someTargets(r, s)
			start := int64(s.b[0])
			shortest, code := impl.ShortestBeat(s.f, start, s.sight, targets)
			wanted := shortestIn(s.f, start, s.sight, targets)
			if wanted == nil {
				missed++
				wantCode(t, "no beat", code, impl.ErrNotFound)
				continue
			}
			found++
			wantCode(t, "ShortestBeat", code, impl.OK)
			wantBeat(t, "ShortestBeat", shortest, wanted...)
			checkSeesAll(t, s, shortest, targets)
		}
	}
	want(t, "there are many of both", found > 1000 && missed > 100, true)
}

// someTargets returns at most MaxTargets cells; either any ones, or such as are seen on the beat.
func someTargets(r *rand.Rand, s beatScene) []int64 {
	var targets []int64
	seen := seenOn(s)
	anywhere := r.IntN(2) == 0
	for range r.IntN(7) {
		if anywhere {
			targets = append(targets, int64(r.IntN(int(s.f.High))*10+r.IntN(int(s.f.Wide))))
		} else {
			targets = append(targets, seen[r.IntN(len(seen))])
		}
	}
	return targets
}

// checkSeesAll expects a beat that is valid, and sees all targets.
func checkSeesAll(t *testing.T, s beatScene, b impl.Beat, targets []int64) {
	t.Helper()
	want(t, "it is valid", impl.ValidBeat(s.f, b), true)
	sees, code := impl.CheckBeat(s.f, b, s.sight, targets)
	wantCode(t, "CheckBeat", code, impl.OK)
	want(t, "it sees all targets", sees, true)
	for _, target := range targets {
		minutes, code := impl.MinutesOf(s.f, b, s.sight, target)
		wantCode(t, "MinutesOf", code, impl.OK)
		want(t, "it is seen", len(minutes) > 0, true)
	}
}

// P11: no beat with fewer cells sees all targets, nor one that comes before it; all beats of small fields are gone through.
func TestP11NoBeatsAreShorter(t *testing.T) {
	r := rand.New(rand.NewPCG(19, 20))
	for range 900 {
		f := openedUp(r, someField(r, int8(1+r.IntN(4)), int8(1+r.IntN(3))))
		start := int64(r.IntN(int(f.High))*10 + r.IntN(int(f.Wide)))
		if !canStand(f, start) {
			continue
		}
		var targets []int64
		for range 1 + r.IntN(4) {
			targets = append(targets, int64(r.IntN(int(f.High))*10+r.IntN(int(f.Wide))))
		}
		sight := []int64{0, 0, 1, 2}[r.IntN(4)]
		const longest = 8
		shortest, code := impl.ShortestBeat(f, start, sight, targets)
		wanted := firstBeatOf(f, start, sight, targets, longest)
		if wanted == nil {
			want(t, "no beat, or a longer one", code == impl.ErrNotFound || len(shortest) > longest, true)
			continue
		}
		wantCode(t, "ShortestBeat", code, impl.OK)
		wantBeat(t, "ShortestBeat", shortest, wanted...)
	}
}

// P11: no beat that is known is shorter.
func TestP11KnownBeatsAreNotShorter(t *testing.T) {
	r := rand.New(rand.NewPCG(21, 22))
	for _, s := range someBeatScenes() {
		seen := seenOn(s)
		var targets []int64
		for range 1 + r.IntN(6) {
			targets = append(targets, seen[r.IntN(len(seen))])
		}
		if !isBeatIn(s.f, s.b) {
			t.Fatalf("%v is no beat", s.b)
		}
		shortest, code := impl.ShortestBeat(s.f, int64(s.b[0]), s.sight, targets)
		wantCode(t, "a beat is known", code, impl.OK)
		want(t, "a shorter one is known", len(shortest) > len(s.b), false)
		if len(shortest) == len(s.b) {
			want(t, "one that comes before it is known", slices.Compare(shortest, s.b) > 0, false)
		}
	}
}

func TestCheckBeat(t *testing.T) {
	f := beatField(t)
	for _, c := range []struct {
		name    string
		b       impl.Beat
		sight   int64
		targets []int64
		sees    bool
	}{
		{"no targets", impl.Beat{0}, 0, nil, true},
		{"all cells of the beat", goodBeat(), 0, []int64{1, 2, 3, 13, 23, 22, 21, 11}, true},
		{"a hedge is not seen", goodBeat(), 0, []int64{1, 2, 3, 10}, false},
		{"a hedge is seen", goodBeat(), 1, []int64{10}, true},
		{"the first one is not seen", impl.Beat{22, 23}, 0, []int64{21, 22, 23}, false},
		{"the last one is not seen", impl.Beat{22, 23}, 0, []int64{22, 23, 13}, false},
		{"seen in the last minute only", impl.Beat{22, 23, 23, 13, 23}, 0, []int64{13, 22}, true},
		{"more than MaxTargets", goodBeat(), 1, []int64{0, 1, 2, 3, 10, 11, 12, 13, 20, 21, 22, 23}, true},
		{"very many", impl.Beat{22}, 0, slices.Repeat([]int64{22}, 900000), true},
		{"very many, but one is not seen", impl.Beat{22}, 0, append(slices.Repeat([]int64{22}, 900000), 21), false},
	} {
		sees, code := impl.CheckBeat(f, c.b, c.sight, c.targets)
		wantCode(t, c.name, code, impl.OK)
		want(t, c.name, sees, c.sees)
	}
	for _, targets := range [][]int64{{4}, {1, 99}, {0, 20, -1}, {100}, {24}, {30}} {
		sees, code := impl.CheckBeat(f, impl.Beat{1}, 0, targets)
		wantCode(t, "a target that is no cell", code, impl.ErrRange)
		want(t, "a target that is no cell", sees, false)
	}
}

func TestCheckBeatIsAsTold(t *testing.T) {
	r := rand.New(rand.NewPCG(23, 24))
	for _, s := range someBeatScenes() {
		for range 10 {
			var targets []int64
			for range r.IntN(4) {
				targets = append(targets, int64(r.IntN(int(s.f.High))*10+r.IntN(int(s.f.Wide))))
			}
			var walk []int64
			for _, n := range s.b {
				walk = append(walk, int64(n))
			}
			sees, code := impl.CheckBeat(s.f, s.b, s.sight, targets)
			wantCode(t, "CheckBeat", code, impl.OK)
			want(t, "CheckBeat", sees, allSeenFrom(s.f, walk, s.sight, targets))
		}
	}
}
