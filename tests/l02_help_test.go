package tests

import (
	"math/rand/v2"
	"slices"
	"testing"

	"loop.example/g01338/impl"
)

// world is a field with fears and flocks that are valid for it.
type world struct {
	f     impl.Field
	fears impl.Fears
	list  []impl.Flock
}

// someWorlds returns worlds of all sizes; few different numbers make many ties, and many numbers at their limits.
func someWorlds() []world {
	r := rand.New(rand.NewPCG(5, 6))
	var list []world
	for range 4 {
		for _, f := range someFields() {
			list = append(list, someWorld(r, f))
		}
	}
	return list
}

func someWorld(r *rand.Rand, f impl.Field) world {
	var trees []int16
	w := world{f: f}
	for n := range int64(100) {
		if !isCell(f, n) {
			continue
		}
		w.fears[n] = []int16{0, 0, 1, 5, 6, 999, 1000}[r.IntN(7)]
		if f.Kinds[n] == impl.KiTree {
			trees = append(trees, int16(n))
		}
		if f.Kinds[n] == impl.KiSoil && r.IntN(4) > 0 {
			w.f.Seeds[n] = int16(r.IntN(4))
		}
	}
	for range r.IntN(impl.MaxFlocks + 1) {
		if len(trees) > 0 {
			w.list = append(w.list, someFlock(r, trees[r.IntN(len(trees))]))
		}
	}
	return w
}

func someFlock(r *rand.Rand, tree int16) impl.Flock {
	return impl.Flock{
		Tree:  tree,
		Birds: []int16{0, 1, 2, 3, 7, 200}[r.IntN(6)],
		Eats:  []int16{0, 1, 1, 2, 3, 20}[r.IntN(6)],
		Bold:  []int16{0, 1, 5, 6, 1000}[r.IntN(5)],
		Reach: []int16{0, 1, 2, 4, 8, 25, 200}[r.IntN(7)],
		Taste: int8(r.IntN(3)),
	}
}

// squareTo is the square of two numbers, told without the package.
func squareTo(a, b int64) int64 {
	x, y := a%10-b%10, a/10-b/10
	return x*x + y*y
}

// goesTo tells, without the package, whether a flock would go to a cell.
func goesTo(w world, b impl.Flock, n int64) bool {
	return isCell(w.f, n) && w.f.Seeds[n] > 0 && w.fears[n] <= b.Bold && squareTo(int64(b.Tree), n) <= int64(b.Reach)
}

// rankOf tells how a flock ranks a cell: the least list is that of its choice.
func rankOf(w world, b impl.Flock, n int64) []int64 {
	seeds, square, fear := int64(w.f.Seeds[n]), squareTo(int64(b.Tree), n), int64(w.fears[n])
	switch b.Taste {
	case impl.TaSeeds:
		return []int64{-seeds, square, n}
	case impl.TaNear:
		return []int64{square, -seeds, n}
	}
	return []int64{fear, -seeds, square, n}
}

// choiceIn returns the choice of a flock, told without the package, and -1 if there is none.
func choiceIn(w world, b impl.Flock) int64 {
	best := int64(-1)
	for n := range int64(100) {
		if goesTo(w, b, n) && (best < 0 || slices.Compare(rankOf(w, b, n), rankOf(w, b, best)) < 0) {
			best = n
		}
	}
	return best
}

// dayIn returns the field and the visits of all flocks of a world behind a day, told without the package.
func dayIn(w world) (impl.Field, []impl.Visit) {
	var visits []impl.Visit
	for i, b := range w.list {
		hunger := int(b.Birds) * int(b.Eats)
		for range 4 {
			cell := choiceIn(w, b)
			if cell < 0 || hunger == 0 {
				break
			}
			seeds := min(hunger, int(w.f.Seeds[cell]))
			hunger -= seeds
			w.f.Seeds[cell] -= int16(seeds)
			visits = append(visits, visited(int8(i), int16(cell), int16(seeds)))
		}
	}
	return w.f, visits
}

// birdField has cells of all kinds, with trees at 3 and 10.
func birdField(t *testing.T) impl.Field {
	t.Helper()
	return fieldOf(t, "3 h 5 t", "t 2 0 p")
}

// goodFlock is valid for birdField.
func goodFlock() impl.Flock {
	return impl.Flock{Tree: 10, Birds: 2, Eats: 3, Bold: 5, Reach: 200, Taste: impl.TaSeeds}
}

// flocksOf returns a flock several times.
func flocksOf(b impl.Flock, count int) []impl.Flock {
	return slices.Repeat([]impl.Flock{b}, count)
}

func visited(flock int8, cell, seeds int16) impl.Visit {
	return impl.Visit{Flock: flock, Cell: cell, Seeds: seeds}
}

// wantVisits takes nil and empty lists for equal ones.
func wantVisits(t *testing.T, name string, got []impl.Visit, wanted ...impl.Visit) {
	t.Helper()
	if !slices.Equal(got, wanted) {
		t.Errorf("%s: got %v, want %v", name, got, wanted)
	}
}

// brokenFears returns fears that are not valid for birdField, each in one way.
func brokenFears() map[string]impl.Fears {
	broken := map[string]impl.Fears{}
	for name, n := range map[string]int{"soil": 0, "hedge": 1, "tree": 10, "path": 13} {
		broken["-1 of "+name] = fearsWith(n, -1)
		broken["-32768 of "+name] = fearsWith(n, -32768)
		broken["1001 of "+name] = fearsWith(n, 1001)
		broken["32767 of "+name] = fearsWith(n, 32767)
	}
	for name, n := range map[string]int{"east": 4, "south": 20, "last": 99} {
		broken["1 "+name+" of the field"] = fearsWith(n, 1)
		broken["1000 "+name+" of the field"] = fearsWith(n, 1000)
		broken["-1 "+name+" of the field"] = fearsWith(n, -1)
	}
	return broken
}

// fearsWith returns fears that are 0 everywhere but at one number.
func fearsWith(n int, fear int16) impl.Fears {
	var fears impl.Fears
	fears[n] = fear
	return fears
}

// brokenFlocks returns flocks that are not valid for birdField, each in one way.
func brokenFlocks() map[string]impl.Flock {
	broken := map[string]impl.Flock{}
	breakIt := func(name string, how func(b *impl.Flock)) {
		b := goodFlock()
		how(&b)
		broken[name] = b
	}
	trees := map[string]int16{
		"soil": 0, "hedge": 1, "path": 13, "soil without seeds": 12, "east": 4, "south": 20, "last": 99,
		"100": 100, "tree and 256": 266, "-1": -1, "tree less 256": -246, "least": -32768, "greatest": 32767,
	}
	for name, n := range trees {
		breakIt("tree "+name, func(b *impl.Flock) { b.Tree = n })
	}
	for name, n := range map[string]int16{"-1": -1, "least": -32768, "greatest": 32767} {
		breakIt("birds "+name, func(b *impl.Flock) { b.Birds = n })
		breakIt("eats "+name, func(b *impl.Flock) { b.Eats = n })
		breakIt("bold "+name, func(b *impl.Flock) { b.Bold = n })
		breakIt("reach "+name, func(b *impl.Flock) { b.Reach = n })
	}
	breakIt("birds 201", func(b *impl.Flock) { b.Birds = 201 })
	breakIt("eats 21", func(b *impl.Flock) { b.Eats = 21 })
	breakIt("bold 1001", func(b *impl.Flock) { b.Bold = 1001 })
	breakIt("reach 201", func(b *impl.Flock) { b.Reach = 201 })
	for name, n := range map[string]int8{"-1": -1, "3": 3, "least": -128, "greatest": 127} {
		breakIt("taste "+name, func(b *impl.Flock) { b.Taste = n })
	}
	return broken
}
