package tests

import (
	"testing"

	"loop.example/g01338/impl"
)

func TestWithHoles(t *testing.T) {
	f := birdField(t)
	cases := []struct {
		name, nets    string
		holes, wanted impl.Cells
	}{
		{"no nets", "", impl.Cells{}, impl.Cells{}},
		{"no nets, and holes", "", everything(), impl.Cells{}},
		{"no holes", "0,0:3x1", impl.Cells{}, setOf(0, 1, 2)},
		{"a hole", "0,0:3x1", setOf(1), setOf(0, 2)},
		{"a hole under two nets", "0,0:2x1 1,0:2x1", setOf(1), setOf(0, 2)},
		{"a hole under equal nets", "0,0:2x1 0,0:2x1", setOf(0), setOf(1)},
		{"a hole under no net", "0,0:2x1", setOf(0, 12), setOf(1)},
		{"a hole in a tree", "0,0:2x1", setOf(3, 10), setOf(0, 1)},
		{"numbers that are no cells", "0,0:2x1", setOf(4, 20, 99), setOf(0, 1)},
		{"bits of numbers greater than 99", "0,0:2x1", withStrays(setOf(1)), setOf(0)},
		{"more than MaxWanted holes", "0,0:3x1 1,1:3x1", firstNumbers(13), setOf(13)},
		{"everything", "0,0:3x1 1,1:3x1", everything(), impl.Cells{}},
	}
	for _, c := range cases {
		set, code := impl.WithHoles(f, netsOf(t, c.nets), c.holes)
		wantCode(t, c.name, code, impl.OK)
		want(t, c.name, set, c.wanted)
	}
}

func TestHolesToMend(t *testing.T) {
	f := birdField(t)
	cases := []struct {
		name, nets             string
		holes, targets, wanted impl.Cells
	}{
		{"nothing", "", impl.Cells{}, impl.Cells{}, impl.Cells{}},
		{"no nets", "", setOf(0), setOf(0), impl.Cells{}},
		{"no holes", "0,0:3x1", impl.Cells{}, setOf(0), impl.Cells{}},
		{"no targets", "0,0:3x1", setOf(0), impl.Cells{}, impl.Cells{}},
		{"all three", "0,0:3x1", setOf(0), setOf(0), setOf(0)},
		{"a hole under no net", "0,0:2x1", setOf(1, 2), setOf(1, 2), setOf(1)},
		{"a hole that is no target", "0,0:3x1", setOf(1, 2), setOf(0, 2), setOf(2)},
		{"a target that is no hole", "0,0:3x1", setOf(1), setOf(0, 1, 2), setOf(1)},
		{"a hole under two nets", "0,0:2x1 1,0:2x1", setOf(1), setOf(1), setOf(1)},
		{"one under each of two nets", "0,0:2x1 1,1:3x1", setOf(0, 13), setOf(0, 13), setOf(0, 13)},
		{"a tree", "0,0:3x1", setOf(0, 3), setOf(0, 3), setOf(0)},
		{"numbers that are no cells", "0,0:3x1", setOf(0, 4, 20, 99), setOf(0), setOf(0)},
		{"bits of numbers greater than 99", "0,0:3x1", withStrays(setOf(0)), withStrays(setOf(0, 1)), setOf(0)},
		{"more than MaxWanted holes", "0,0:3x1 1,1:3x1", everything(), setOf(0, 3, 13), setOf(0, 13)},
	}
	for _, c := range cases {
		set, code := impl.HolesToMend(f, netsOf(t, c.nets), c.holes, c.targets)
		wantCode(t, c.name, code, impl.OK)
		want(t, c.name, set, c.wanted)
	}
}

// P8: what is left of nets with holes covers what it is told to cover, cell by cell.
func TestP8HolesAreAsTold(t *testing.T) {
	for _, s := range someNetScenes() {
		for _, holes := range someSets() {
			var left, mend []int
			for n := range int64(100) {
				covered := len(netsOver(s.nets, n)) > 0
				if covered && !isIn(holes, n) {
					left = append(left, int(n))
				}
				if covered && isIn(holes, n) && isIn(s.targets, n) {
					mend = append(mend, int(n))
				}
			}
			set, code := impl.WithHoles(s.f, s.nets, holes)
			wantCode(t, "WithHoles", code, impl.OK)
			want(t, "WithHoles", set, setOf(left...))
			set, code = impl.HolesToMend(s.f, s.nets, holes, s.targets)
			wantCode(t, "HolesToMend", code, impl.OK)
			want(t, "HolesToMend", set, setOf(mend...))
		}
	}
}
