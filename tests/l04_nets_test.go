package tests

import (
	"slices"
	"testing"

	"loop.example/g01338/impl"
)

func TestExampleOfNets(t *testing.T) {
	f := plainField(t, 3, 2)
	p, dear, targets := impl.Prices{Base: 5, Cell: 1}, impl.Prices{Base: 5, Cell: 10}, setOf(0, 2)
	cost, code := impl.CostOfNet(f, p, netAt(0, 0, 1, 1))
	want(t, "a net of 1 by 1", [2]int64{cost, code}, [2]int64{6, impl.OK})
	cost, code = impl.CostOfNet(f, p, netAt(0, 0, 3, 1))
	want(t, "a net of 3 by 1", [2]int64{cost, code}, [2]int64{8, impl.OK})
	nets, cost, code := impl.CheapestNets(f, p, targets, impl.MaxTries)
	want(t, "CheapestNets", [2]int64{cost, code}, [2]int64{8, impl.OK})
	want(t, "CheapestNets", impl.NetsText(nets), "0,0:3x1")
	duties, code := impl.DutiesFor(f, p, targets)
	wantCode(t, "DutiesFor", code, impl.OK)
	wantList(t, "DutiesFor", duties, 6, 2)
	nets, cost, code = impl.GreedyNets(f, p, targets)
	want(t, "GreedyNets", [2]int64{cost, code}, [2]int64{8, impl.OK})
	want(t, "GreedyNets", impl.NetsText(nets), "0,0:3x1")
	nets, cost, code = impl.CheapestNets(f, dear, targets, impl.MaxTries)
	want(t, "CheapestNets, the cell 10", [2]int64{cost, code}, [2]int64{30, impl.OK})
	want(t, "CheapestNets, the cell 10", impl.NetsText(nets), "0,0:1x1 2,0:1x1")
}

func TestConstantsOfNets(t *testing.T) {
	want(t, "MaxNets", impl.MaxNets, 20)
	want(t, "MaxWanted", impl.MaxWanted, 12)
	want(t, "MaxTries", impl.MaxTries, 20000)
}

func TestValidNet(t *testing.T) {
	f := birdField(t)
	valid := map[string]impl.Net{
		"1 by 1":                     netAt(0, 0, 1, 1),
		"1 by 1 in the south-east":   netAt(3, 1, 1, 1),
		"a hedge":                    netAt(1, 0, 1, 1),
		"a path":                     netAt(3, 1, 1, 1),
		"up to a tree at its east":   netAt(0, 0, 3, 1),
		"down to the southern edge":  netAt(1, 0, 2, 2),
		"up to the eastern edge":     netAt(1, 1, 3, 1),
		"a column":                   netAt(2, 0, 1, 2),
		"soil that has no seeds too": netAt(2, 1, 1, 1),
	}
	for name, net := range valid {
		want(t, name, impl.ValidNet(f, net), true)
	}
	for name, net := range brokenNets() {
		want(t, name, impl.ValidNet(f, net), false)
	}
	for name, broken := range brokenFields() {
		want(t, "a field that is not valid, "+name, impl.ValidNet(broken, netAt(0, 0, 1, 1)), false)
	}
	for _, f := range []impl.Field{plainField(t, 10, 10), plainField(t, 1, 1), plainField(t, 10, 1), plainField(t, 1, 10), plainField(t, 7, 4)} {
		want(t, "as wide and high as the field", impl.ValidNet(f, netAt(0, 0, f.Wide, f.High)), true)
		want(t, "wider than the field", impl.ValidNet(f, netAt(0, 0, f.Wide+1, f.High)), false)
		want(t, "higher than the field", impl.ValidNet(f, netAt(0, 0, f.Wide, f.High+1)), false)
		want(t, "as wide, but one more to the east", impl.ValidNet(f, netAt(1, 0, f.Wide, f.High)), false)
		want(t, "as high, but one more to the south", impl.ValidNet(f, netAt(0, 1, f.Wide, f.High)), false)
	}
}

func TestValidNetIsAsTold(t *testing.T) {
	numbers := []int8{-128, -127, -1, 0, 1, 2, 3, 5, 9, 10, 11, 100, 126, 127}
	for i, s := range someNetScenes() {
		if i%9 != 0 {
			continue
		}
		for _, x := range numbers {
			for _, y := range numbers {
				for _, wide := range numbers {
					for _, high := range numbers {
						net := netAt(x, y, wide, high)
						if got, wanted := impl.ValidNet(s.f, net), isNetOn(s.f, net); got != wanted {
							t.Fatalf("ValidNet of %v on %q: got %v, want %v", net, impl.FieldText(s.f), got, wanted)
						}
					}
				}
			}
		}
	}
}

func TestValidPrices(t *testing.T) {
	valid := []impl.Prices{
		{Base: 1}, {Cell: 1}, {Edge: 1}, {Base: 100}, {Cell: 100}, {Edge: 100}, {Base: 100, Cell: 100, Edge: 100},
		{Base: 1, Cell: 1, Edge: 1}, {Cell: 7, Edge: 9}, {Base: 7, Edge: 9}, {Base: 7, Cell: 9},
	}
	for _, p := range append(valid, somePrices()...) {
		want(t, "prices", impl.ValidPrices(p), true)
	}
	for name, p := range brokenPrices() {
		want(t, name, impl.ValidPrices(p), false)
	}
}

func TestCellsUnder(t *testing.T) {
	cases := []struct {
		name   string
		f      impl.Field
		net    impl.Net
		code   int64
		wanted impl.Cells
	}{
		{"1 by 1", birdField(t), netAt(0, 0, 1, 1), impl.OK, setOf(0)},
		{"a row", birdField(t), goodNet(), impl.OK, setOf(0, 1, 2)},
		{"a column", birdField(t), netAt(2, 0, 1, 2), impl.OK, setOf(2, 12)},
		{"2 by 2", birdField(t), netAt(1, 0, 2, 2), impl.OK, setOf(1, 2, 11, 12)},
		{"the last cell of the largest field", plainField(t, 10, 10), netAt(9, 9, 1, 1), impl.OK, setOf(99)},
		{"the largest field", plainField(t, 10, 10), netAt(0, 0, 10, 10), impl.OK, impl.Cells{^uint64(0), 1<<36 - 1}},
		{"over both words", plainField(t, 10, 10), netAt(2, 5, 3, 2), impl.OK, setOf(52, 53, 54, 62, 63, 64)},
		{"no tree", birdField(t), netAt(3, 0, 1, 1), impl.ErrInvalid, impl.Cells{}},
	}
	for _, c := range cases {
		set, code := impl.CellsUnder(c.f, c.net)
		wantCode(t, c.name, code, c.code)
		want(t, c.name, set, c.wanted)
	}
}

func TestCoveredByAndTwiceCovered(t *testing.T) {
	f := birdField(t)
	cases := []struct {
		name, nets  string
		once, twice impl.Cells
	}{
		{"no nets", "", impl.Cells{}, impl.Cells{}},
		{"one", "0,0:3x1", setOf(0, 1, 2), impl.Cells{}},
		{"two with nothing in common", "0,0:1x1 1,1:2x1", setOf(0, 11, 12), impl.Cells{}},
		{"two with one cell in common", "0,0:2x1 1,0:2x1", setOf(0, 1, 2), setOf(1)},
		{"two with one cell in common, backward", "1,0:2x1 0,0:2x1", setOf(0, 1, 2), setOf(1)},
		{"equal ones", "0,0:2x1 0,0:2x1", setOf(0, 1), setOf(0, 1)},
		{"three equal ones", "2,1:1x1 2,1:1x1 2,1:1x1", setOf(12), setOf(12)},
		{"one in another one", "1,0:2x2 2,1:1x1", setOf(1, 2, 11, 12), setOf(12)},
		{"the first and the last one", "0,0:2x1 2,1:2x1 0,0:1x1", setOf(0, 1, 12, 13), setOf(0)},
		{"two pairs", "0,0:2x1 1,0:2x1 1,0:1x2 2,0:1x2", setOf(0, 1, 2, 11, 12), setOf(1, 2)},
	}
	for _, c := range cases {
		set, code := impl.CoveredBy(f, netsOf(t, c.nets))
		wantCode(t, c.name, code, impl.OK)
		want(t, c.name, set, c.once)
		set, code = impl.TwiceCovered(f, netsOf(t, c.nets))
		wantCode(t, c.name+", twice", code, impl.OK)
		want(t, c.name+", twice", set, c.twice)
	}
}

// P8: what nets cover, and what they cost, is what the rules tell, cell by cell.
func TestP8NetsAreAsTold(t *testing.T) {
	for _, s := range someNetScenes() {
		once, code := impl.CoveredBy(s.f, s.nets)
		wantCode(t, "CoveredBy", code, impl.OK)
		want(t, "CoveredBy", once, coveredIn(s.nets, 1))
		twice, code := impl.TwiceCovered(s.f, s.nets)
		wantCode(t, "TwiceCovered", code, impl.OK)
		want(t, "TwiceCovered", twice, coveredIn(s.nets, 2))
		cost, code := impl.CostOfNets(s.f, s.p, s.nets)
		want(t, "CostOfNets", [2]int64{cost, code}, [2]int64{costIn(s.p, s.nets...), impl.OK})
		for _, net := range s.nets {
			set, code := impl.CellsUnder(s.f, net)
			wantCode(t, "CellsUnder", code, impl.OK)
			want(t, "CellsUnder", set, coveredIn([]impl.Net{net}, 1))
			cost, code := impl.CostOfNet(s.f, s.p, net)
			want(t, "CostOfNet", [2]int64{cost, code}, [2]int64{costIn(s.p, net), impl.OK})
			edge, code := impl.EdgeOf(s.f, net)
			want(t, "EdgeOf", [2]int64{edge, code}, [2]int64{2 * (int64(net.Wide) + int64(net.High)), impl.OK})
		}
	}
}

func TestCostOfNet(t *testing.T) {
	full := plainField(t, 10, 10)
	cases := []struct {
		name   string
		p      impl.Prices
		net    impl.Net
		wanted int64
	}{
		{"the base only", impl.Prices{Base: 7}, netAt(2, 3, 4, 5), 7},
		{"cells only", impl.Prices{Cell: 7}, netAt(2, 3, 4, 5), 140},
		{"the edge only", impl.Prices{Edge: 7}, netAt(2, 3, 4, 5), 126},
		{"all three", impl.Prices{Base: 1, Cell: 10, Edge: 100}, netAt(2, 3, 4, 5), 1 + 200 + 1800},
		{"1 by 1", impl.Prices{Base: 1, Cell: 10, Edge: 100}, netAt(9, 9, 1, 1), 1 + 10 + 400},
		{"the greatest cost", impl.Prices{Base: 100, Cell: 100, Edge: 100}, netAt(0, 0, 10, 10), 100 + 10000 + 4000},
		{"the least cost", impl.Prices{Base: 1}, netAt(0, 0, 10, 10), 1},
	}
	for _, c := range cases {
		cost, code := impl.CostOfNet(full, c.p, c.net)
		want(t, c.name, [2]int64{cost, code}, [2]int64{c.wanted, impl.OK})
		twice, code := impl.CostOfNets(full, c.p, []impl.Net{c.net, c.net})
		want(t, c.name+", twice", [2]int64{twice, code}, [2]int64{2 * c.wanted, impl.OK})
	}
	cost, code := impl.CostOfNets(full, impl.Prices{Base: 1}, nil)
	want(t, "no nets", [2]int64{cost, code}, [2]int64{0, impl.OK})
	many := slices.Repeat([]impl.Net{netAt(0, 0, 10, 10)}, 20)
	cost, code = impl.CostOfNets(full, impl.Prices{Base: 100, Cell: 100, Edge: 100}, many)
	want(t, "MaxNets", [2]int64{cost, code}, [2]int64{282000, impl.OK})
}

func TestEdgeOf(t *testing.T) {
	full := plainField(t, 10, 10)
	for net, wanted := range map[impl.Net]int64{
		netAt(0, 0, 1, 1): 4, netAt(0, 0, 3, 1): 8, netAt(4, 4, 1, 3): 8, netAt(2, 3, 4, 5): 18, netAt(0, 0, 10, 10): 40,
	} {
		edge, code := impl.EdgeOf(full, net)
		want(t, "EdgeOf", [2]int64{edge, code}, [2]int64{wanted, impl.OK})
	}
}

func TestAllNets(t *testing.T) {
	f := birdField(t)
	cases := []struct {
		name   string
		cell   int64
		code   int64
		wanted string
	}{
		{"in the north-west", 0, impl.OK, "0,0:1x1 0,0:2x1 0,0:3x1"},
		{"in the middle", 11, impl.OK, "1,0:1x2 1,0:2x2 1,1:1x1 1,1:2x1 1,1:3x1"},
		{"a hedge", 1, impl.OK, "0,0:2x1 0,0:3x1 1,0:1x1 1,0:2x1 1,0:1x2 1,0:2x2"},
		{"a path in the south-east", 13, impl.OK, "1,1:3x1 2,1:2x1 3,1:1x1"},
		{"a tree", 3, impl.OK, ""},
		{"another tree", 10, impl.OK, ""},
		{"no cell, east", 4, impl.ErrRange, ""},
		{"no cell, south", 20, impl.ErrRange, ""},
		{"no cell, less than 0", -1, impl.ErrRange, ""},
		{"no cell, soil and 65536", 65536, impl.ErrRange, ""},
		{"no cell, soil and 256", 256, impl.ErrRange, ""},
	}
	for _, c := range cases {
		nets, code := impl.AllNets(f, c.cell)
		wantCode(t, c.name, code, c.code)
		want(t, c.name, impl.NetsText(nets), c.wanted)
	}
	nets, code := impl.AllNets(plainField(t, 1, 1), 0)
	wantCode(t, "the least field", code, impl.OK)
	wantNets(t, "the least field", nets, netAt(0, 0, 1, 1))
	nets, code = impl.AllNets(plainField(t, 10, 10), 44)
	wantCode(t, "the largest field", code, impl.OK)
	want(t, "the largest field", len(nets), 900)
}

// P8: all nets of a cell are returned, in their order.
func TestP8AllNetsAreAsTold(t *testing.T) {
	for _, s := range someNetScenes()[:100] {
		every := allNetsOn(s.f)
		for n := range int64(100) {
			nets, code := impl.AllNets(s.f, n)
			if !isCell(s.f, n) {
				wantCode(t, "AllNets of no cell", code, impl.ErrRange)
				continue
			}
			wantCode(t, "AllNets", code, impl.OK)
			wantNets(t, "AllNets", nets, netsOver(every, n)...)
		}
	}
}

// netLists are calls with a list of nets for a field, and the code.
func netLists() map[string]func(f impl.Field, nets []impl.Net, targets impl.Cells) int64 {
	p := impl.Prices{Base: 1}
	return map[string]func(f impl.Field, nets []impl.Net, targets impl.Cells) int64{
		"CoveredBy":    func(f impl.Field, nets []impl.Net, _ impl.Cells) int64 { _, e := impl.CoveredBy(f, nets); return e },
		"CostOfNets":   func(f impl.Field, nets []impl.Net, _ impl.Cells) int64 { _, e := impl.CostOfNets(f, p, nets); return e },
		"CheckNets":    func(f impl.Field, nets []impl.Net, c impl.Cells) int64 { _, e := impl.CheckNets(f, nets, c); return e },
		"FirstBare":    func(f impl.Field, nets []impl.Net, c impl.Cells) int64 { _, e := impl.FirstBare(f, nets, c); return e },
		"TrimNets":     func(f impl.Field, nets []impl.Net, c impl.Cells) int64 { _, e := impl.TrimNets(f, nets, c); return e },
		"TwiceCovered": func(f impl.Field, nets []impl.Net, _ impl.Cells) int64 { _, e := impl.TwiceCovered(f, nets); return e },
		"WithHoles": func(f impl.Field, nets []impl.Net, c impl.Cells) int64 {
			_, e := impl.WithHoles(f, nets, c)
			return e
		},
		"HolesToMend": func(f impl.Field, nets []impl.Net, c impl.Cells) int64 {
			_, e := impl.HolesToMend(f, nets, everything(), c)
			return e
		},
	}
}

func TestLimitOfNets(t *testing.T) {
	f := birdField(t)
	for name, call := range netLists() {
		for _, count := range []int{0, 1, 19, 20, 21, 22, 256, 1000000} {
			wanted := int64(impl.OK)
			switch {
			case count > 20:
				wanted = impl.ErrLimit
			case name == "FirstBare":
				wanted = impl.ErrNotFound
			}
			wantCode(t, name, call(f, slices.Repeat([]impl.Net{goodNet()}, count), impl.Cells{}), wanted)
		}
		// A net that is not valid comes before too many nets, and these before a target that is no cell.
		for broken, nets := range brokenNetLists() {
			wantCode(t, name+" with "+broken, call(f, nets, setOf(99)), impl.ErrInvalid)
		}
		wantCode(t, name+" with too many nets and no cell", call(f, slices.Repeat([]impl.Net{goodNet()}, 21), setOf(99)), impl.ErrLimit)
		full := plainField(t, 10, 10)
		every := allNetsOn(full)
		wantCode(t, name+" with all nets of a field", call(full, every, impl.Cells{}), impl.ErrLimit)
		wantCode(t, name+" with all nets of a field, and one that is not valid", call(full, append(every, netAt(5, 5, 6, 1)), impl.Cells{}), impl.ErrInvalid)
	}
}

// targetCalls are calls with targets that look at no more than a field, prices and these, and the code.
func targetCalls() map[string]func(f impl.Field, targets impl.Cells) int64 {
	calls := map[string]func(f impl.Field, targets impl.Cells) int64{}
	for _, name := range []string{"CheckNets", "FirstBare", "TrimNets", "HolesToMend"} {
		call := netLists()[name]
		calls[name] = func(f impl.Field, c impl.Cells) int64 { return call(f, []impl.Net{netAt(0, 0, 1, 1)}, c) }
	}
	p := impl.Prices{Base: 1}
	calls["GreedyNets"] = func(f impl.Field, c impl.Cells) int64 { _, _, e := impl.GreedyNets(f, p, c); return e }
	calls["CheapestNets"] = func(f impl.Field, c impl.Cells) int64 {
		_, _, e := impl.CheapestNets(f, p, c, impl.MaxTries)
		return e
	}
	calls["DutiesFor"] = func(f impl.Field, c impl.Cells) int64 { _, e := impl.DutiesFor(f, p, c); return e }
	calls["CheckDuties"] = func(f impl.Field, c impl.Cells) int64 { _, e := impl.CheckDuties(f, p, c, nil); return e }
	calls["DutyBound"] = func(f impl.Field, c impl.Cells) int64 { _, e := impl.DutyBound(f, p, c, nil); return e }
	return calls
}

// firstNumbers returns so many numbers from 0 on that are cells of a field of 10 by 10 cells.
func firstNumbers(count int) impl.Cells {
	var list []int
	for n := range count {
		list = append(list, n)
	}
	return setOf(list...)
}

func TestLimitOfTargets(t *testing.T) {
	full, small := plainField(t, 10, 10), plainField(t, 10, 1)
	for name, call := range targetCalls() {
		for _, set := range []impl.Cells{firstNumbers(12), withStrays(firstNumbers(12)), firstNumbers(1), {}, strayBits()} {
			code := call(full, set)
			want(t, name+" with MaxWanted targets or fewer", code != impl.ErrLimit && code != impl.ErrRange && code != impl.ErrInvalid, true)
		}
		for _, set := range []impl.Cells{firstNumbers(13), withStrays(firstNumbers(13)), firstNumbers(100), everything()} {
			wantCode(t, name+" with too many targets", call(full, set), impl.ErrLimit)
			wantCode(t, name+" with too many targets, some of which are no cells", call(small, set), impl.ErrLimit)
			wantCode(t, name+" with too many targets, and no field", call(impl.Field{}, set), impl.ErrInvalid)
		}
		wantCode(t, name+" with 12 targets, two of which are no cells", call(small, firstNumbers(12)), impl.ErrRange)
	}
}

func TestTargetsThatAreNoCells(t *testing.T) {
	f := birdField(t)
	for name, call := range targetCalls() {
		for n := range int64(100) {
			code := call(f, setOf(int(n)))
			want(t, name+" with a target", code == impl.ErrRange, !isCell(f, n))
			wantCode(t, name+" with a target that is no cell, and a tree", call(f, setOf(3, 99)), impl.ErrRange)
		}
		for n := 100; n < 128; n++ {
			wantCode(t, name+" with a bit greater than 99", call(f, setOf(0, n)), call(f, setOf(0)))
		}
	}
}
