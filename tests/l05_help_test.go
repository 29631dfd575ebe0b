package tests

import (
	"math/rand/v2"
	"slices"
	"testing"

	"loop.example/g01338/impl"
)

// beatScene is a field with a beat that is valid for it, a sight, and targets.
type beatScene struct {
	f       impl.Field
	b       impl.Beat
	sight   int64
	targets impl.Cells
}

// someBeatScenes returns scenes of all sizes, with beats of all lengths, that go round and stand still.
func someBeatScenes() []beatScene {
	r := rand.New(rand.NewPCG(11, 12))
	var list []beatScene
	for range 4 {
		for _, f := range someFields() {
			s := beatScene{f: openedUp(r, f), sight: []int64{0, 0, 1, 2, 5, 13, 49, 50}[r.IntN(8)]}
			if s.b = someBeat(r, s.f); s.b == nil {
				continue
			}
			if seen := seenOn(s); r.IntN(3) > 0 {
				for range 1 + r.IntN(5) {
					s.targets[0], s.targets[1] = withNumber(s.targets, seen[r.IntN(len(seen))])
				}
			} else {
				s.targets = impl.Cells{r.Uint64() & r.Uint64(), r.Uint64() & r.Uint64()}
			}
			list = append(list, s)
		}
	}
	return list
}

// openedUp makes some of the hedges and trees paths, so that watchers come far.
func openedUp(r *rand.Rand, f impl.Field) impl.Field {
	for n := range f.Kinds {
		if f.Kinds[n] != impl.KiSoil && r.IntN(2) == 0 {
			f.Kinds[n] = impl.KiPath
		}
	}
	return f
}

// someBeat returns a beat that goes anywhere, and then home; nil if there is nowhere to walk.
func someBeat(r *rand.Rand, f impl.Field) impl.Beat {
	var cells []int64
	for n := range int64(100) {
		if canStand(f, n) {
			cells = append(cells, n)
		}
	}
	if len(cells) == 0 {
		return nil
	}
	walk := []int64{cells[r.IntN(len(cells))]}
	for range r.IntN(24) {
		steps := stepsIn(f, walk[len(walk)-1])
		walk = append(walk, steps[r.IntN(len(steps))])
	}
	home := wayIn(f, walk[len(walk)-1], walk[0])
	walk = append(walk, home[1:]...)
	if len(walk) > 1 && r.IntN(2) == 0 {
		walk = walk[:len(walk)-1]
	}
	return beatOf(walk[:min(len(walk), 40)]...)
}

func beatOf(cells ...int64) impl.Beat {
	var b impl.Beat
	for _, n := range cells {
		b = append(b, int16(n))
	}
	return b
}

func withNumber(c impl.Cells, n int64) (uint64, uint64) {
	c[n/64] |= 1 << uint(n%64)
	return c[0], c[1]
}

// canStand tells, without the package, whether watchers can walk in a cell.
func canStand(f impl.Field, n int64) bool {
	return isCell(f, n) && (f.Kinds[n] == impl.KiSoil || f.Kinds[n] == impl.KiPath)
}

// areBeside tells, without the package, whether two cells share a side.
func areBeside(a, b int64) bool {
	x, y := a%10-b%10, a/10-b/10
	return x == 0 && (y == 1 || y == -1) || y == 0 && (x == 1 || x == -1)
}

// stepsIn returns the cells in which a watcher can be a minute later, ascending.
func stepsIn(f impl.Field, cell int64) []int64 {
	var steps []int64
	for n := range int64(100) {
		if canStand(f, n) && (n == cell || areBeside(n, cell)) {
			steps = append(steps, n)
		}
	}
	return steps
}

// isBeatIn tells, without the package, whether a beat is valid for a field that is.
func isBeatIn(f impl.Field, b impl.Beat) bool {
	if len(b) == 0 || len(b) > 40 {
		return false
	}
	before := int64(b[len(b)-1])
	for _, n := range b {
		cell := int64(n)
		if !canStand(f, cell) || cell != before && !areBeside(cell, before) {
			return false
		}
		before = cell
	}
	return true
}

// isSeenFrom tells, without the package, whether a number is a cell that is seen from another one.
func isSeenFrom(f impl.Field, from int16, sight, n int64) bool {
	return isCell(f, n) && squareTo(int64(from), n) <= sight
}

// minutesIn tells in which minutes of a beat a cell is seen.
func minutesIn(s beatScene, n int64) []int64 {
	var minutes []int64
	for minute, from := range s.b {
		if isSeenFrom(s.f, from, s.sight, n) {
			minutes = append(minutes, int64(minute))
		}
	}
	return minutes
}

// seenOn returns the cells that are seen on a beat, ascending.
func seenOn(s beatScene) []int64 {
	var seen []int64
	for n := range int64(100) {
		if len(minutesIn(s, n)) > 0 {
			seen = append(seen, n)
		}
	}
	return seen
}

// gapIn lets watchers walk three rounds, and tells the longest time for which a cell was not seen; 0 if it never was.
func gapIn(s beatScene, n, watchers int64) int64 {
	places := make([]int64, watchers)
	for i := range places {
		places[i] = int64(i) * int64(len(s.b)) / watchers
	}
	gap, last := int64(0), int64(-1)
	for minute := range 3 * int64(len(s.b)) {
		seen := false
		for i, place := range places {
			seen = seen || isSeenFrom(s.f, s.b[place], s.sight, n)
			places[i] = place + 1
			if places[i] == int64(len(s.b)) {
				places[i] = 0
			}
		}
		if seen && last >= 0 {
			gap = max(gap, minute-last)
		}
		if seen {
			last = minute
		}
	}
	return gap
}

// worstIn tells, without the package, which target has the greatest gap with several watchers, and this gap.
func worstIn(s beatScene, watchers int64) (worst, gap, code int64) {
	for _, n := range targetsIn(s.targets) {
		if !isCell(s.f, n) {
			continue
		}
		if len(minutesIn(s, n)) == 0 {
			return 0, 0, impl.ErrNotFound
		}
		if g := gapIn(s, n, watchers); g > gap {
			worst, gap = n, g
		}
	}
	if gap == 0 {
		return 0, 0, impl.ErrNotFound
	}
	return worst, gap, impl.OK
}

// watchersIn tells, without the package, what WatchersFor returns.
func watchersIn(s beatScene, most int64) (int64, int64) {
	for watchers := int64(1); watchers <= 8; watchers++ {
		if _, gap, code := worstIn(s, watchers); code == impl.OK && gap <= most {
			return watchers, impl.OK
		}
	}
	return 0, impl.ErrNotFound
}

// wayIn tells, without the package, what WayBetween returns; nil if no way joins the cells. It finds out first how far all cells are from the last one.
func wayIn(f impl.Field, from, to int64) []int64 {
	const never = 1000
	far := [100]int{}
	for n := range far {
		far[n] = never
	}
	far[to] = 0
	for before := [100]int{}; before != far; {
		before = far
		for n := range int64(100) {
			if canStand(f, n) {
				for _, step := range stepsIn(f, n) {
					far[n] = min(far[n], far[step]+1)
				}
			}
		}
	}
	if far[from] >= never {
		return nil
	}
	way := []int64{from}
	for n := from; n != to; way = append(way, n) {
		for _, step := range stepsIn(f, n) {
			if far[step] < far[n] {
				n = step
				break
			}
		}
	}
	return way
}

// allSeenFrom tells whether each target is seen from some cell of a walk.
func allSeenFrom(f impl.Field, walk []int64, sight int64, targets []int64) bool {
	for _, target := range targets {
		if !slices.ContainsFunc(walk, func(n int64) bool { return isSeenFrom(f, int16(n), sight, target) }) {
			return false
		}
	}
	return true
}

// shortestIn tells, without the package, what ShortestBeat returns; nil if there is none. It goes through walks, shorter ones first, and then by their order as lists, but for those that end where another one does that has seen as much.
func shortestIn(f impl.Field, start, sight int64, targets []int64) impl.Beat {
	seenFrom := func(n int64) (part int) {
		for i, target := range targets {
			if isSeenFrom(f, int16(n), sight, target) {
				part |= 1 << i
			}
		}
		return part
	}
	type state struct {
		cell int64
		part int
	}
	type walk struct {
		state
		cells []int64
	}
	known := map[state]bool{{start, seenFrom(start)}: true}
	open := []walk{{state{start, seenFrom(start)}, []int64{start}}}
	for len(open) > 0 && len(open[0].cells) <= 40 {
		w := open[0]
		open = open[1:]
		if w.part == 1<<len(targets)-1 && (w.cell == start || areBeside(w.cell, start)) {
			return beatOf(w.cells...)
		}
		for _, step := range stepsIn(f, w.cell) {
			next := state{step, w.part | seenFrom(step)}
			if !known[next] {
				known[next] = true
				open = append(open, walk{next, append(slices.Clone(w.cells), step)})
			}
		}
	}
	return nil
}

// firstBeatOf goes through all beats of one length after the other, each in the order of lists, and leaves none out.
func firstBeatOf(f impl.Field, start, sight int64, targets []int64, longest int) impl.Beat {
	var found []int64
	var try func(walk []int64, length int) bool
	try = func(walk []int64, length int) bool {
		last := walk[len(walk)-1]
		if len(walk) == length {
			if (last == start || areBeside(last, start)) && allSeenFrom(f, walk, sight, targets) {
				found = slices.Clone(walk)
			}
			return found != nil
		}
		for _, step := range stepsIn(f, last) {
			if try(append(slices.Clone(walk), step), length) {
				return true
			}
		}
		return false
	}
	for length := 1; length <= longest; length++ {
		if try([]int64{start}, length) {
			return beatOf(found...)
		}
	}
	return nil
}

// missingIn tells, without the package, how many watchers are missing in each hour; less than 0 if there are too many.
func missingIn(need []int64, length int64, starts []int64) []int64 {
	missing := slices.Clone(need)
	for hour := range missing {
		for _, start := range starts {
			if start <= int64(hour) && int64(hour) < start+length {
				missing[hour]--
			}
		}
	}
	return missing
}

// fewestStarts tells how many shifts are enough, by trying all numbers of shifts that begin at each hour.
func fewestStarts(need []int64, length int64) int {
	most := int64(0)
	for _, n := range need {
		most = max(most, n)
	}
	fewest := 1000
	var try func(starts []int64, hour int)
	try = func(starts []int64, hour int) {
		if hour == len(need) {
			if !slices.ContainsFunc(missingIn(need, length, starts), func(n int64) bool { return n > 0 }) {
				fewest = min(fewest, len(starts))
			}
			return
		}
		for range most + 1 {
			try(starts, hour+1)
			starts = append(slices.Clone(starts), int64(hour))
		}
	}
	try(nil, 0)
	return fewest
}

// beatField has a way round a tree.
func beatField(t *testing.T) impl.Field {
	t.Helper()
	return fieldOf(t, "3 p 5 1", "h 0 t 2", "4 6 p 0")
}

// goodBeat is valid for beatField, and goes round its tree.
func goodBeat() impl.Beat { return impl.Beat{1, 2, 3, 13, 23, 22, 21, 11} }

// brokenBeats returns beats that are not valid for beatField, each in one way.
func brokenBeats() map[string]impl.Beat {
	broken := map[string]impl.Beat{
		"nil":                           nil,
		"empty":                         {},
		"more than MaxBeat":             slices.Repeat(impl.Beat{1}, 41),
		"many more than MaxBeat":        slices.Repeat(impl.Beat{1}, 1000),
		"a million":                     slices.Repeat(impl.Beat{1}, 900000),
		"more than MaxBeat, in a round": slices.Repeat(goodBeat(), 6),
		"over a hedge":                  {0, 10, 20, 10},
		"over a tree":                   {11, 12, 13, 12},
		"in a hedge":                    {10},
		"in a tree":                     {12},
		"a hedge last":                  {0, 10},
		"a tree first":                  {12, 11},
		"a jump":                        {1, 3, 2},
		"a jump behind steps":           {1, 2, 3, 1},
		"a jump over a hedge":           {0, 20},
		"a jump to south":               {2, 22},
		"a slanting step":               {2, 13, 3},
		"another slanting step":         {0, 11, 1},
		"no way back":                   {1, 2, 3},
		"no way back, standing":         {1, 2, 3, 3},
		"a slanting way back":           {2, 3, 13},
		"the last jumps":                {1, 2, 3, 13, 23, 22, 21, 20},
		"negative, back":                {0, -1, 0},
	}
	for name, n := range map[string]int16{
		"east": 4, "east, in the last row": 24, "south": 30, "south, in the last column": 33, "last": 99, "100": 100, "101": 101, "257": 257,
		"-1": -1, "-10": -10, "-255": -255, "least": -32768, "greatest": 32767,
	} {
		broken["cell "+name] = impl.Beat{n}
		broken["cell "+name+" first"] = impl.Beat{n, 3}
		broken["cell "+name+" last"] = impl.Beat{3, n}
		broken["cell "+name+" between"] = impl.Beat{23, n, 23}
	}
	return broken
}

// wantBeat takes nil and empty beats for equal ones.
func wantBeat(t *testing.T, name string, got impl.Beat, wanted ...int16) {
	t.Helper()
	if !slices.Equal(got, wanted) {
		t.Errorf("%s: got %v, want %v", name, got, wanted)
	}
}
