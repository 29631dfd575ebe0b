package tests

import (
	"math"
	"reflect"
	"slices"
	"testing"

	"loop.example/g01338/impl"
)

// netArgs are arguments of all functions of the chapter.
type netArgs struct {
	f       impl.Field
	p       impl.Prices
	net     impl.Net
	nets    []impl.Net
	targets impl.Cells
	holes   impl.Cells
	duties  []int64
	n       int64
}

// netCall is a function with a code as its last result, and at what it looks beside a field.
type netCall struct {
	name   string
	looks  string
	result func(x netArgs) []any
}

func netCalls() []netCall {
	return []netCall{
		{"CellsUnder", "net", func(x netArgs) []any { r, e := impl.CellsUnder(x.f, x.net); return all(r, e) }},
		{"CoveredBy", "nets", func(x netArgs) []any { r, e := impl.CoveredBy(x.f, x.nets); return all(r, e) }},
		{"CostOfNet", "prices and net", func(x netArgs) []any { r, e := impl.CostOfNet(x.f, x.p, x.net); return all(r, e) }},
		{"CostOfNets", "prices and nets", func(x netArgs) []any { r, e := impl.CostOfNets(x.f, x.p, x.nets); return all(r, e) }},
		{"EdgeOf", "net", func(x netArgs) []any { r, e := impl.EdgeOf(x.f, x.net); return all(r, e) }},
		{"AllNets", "", func(x netArgs) []any { r, e := impl.AllNets(x.f, x.n); return all(r, e) }},
		{"CheckNets", "nets", func(x netArgs) []any { r, e := impl.CheckNets(x.f, x.nets, x.targets); return all(r, e) }},
		{"FirstBare", "nets", func(x netArgs) []any { r, e := impl.FirstBare(x.f, x.nets, x.targets); return all(r, e) }},
		{"GreedyNets", "prices", func(x netArgs) []any {
			r, s, e := impl.GreedyNets(x.f, x.p, x.targets)
			return all(r, s, e)
		}},
		{"CheapestNets", "prices", func(x netArgs) []any {
			r, s, e := impl.CheapestNets(x.f, x.p, x.targets, x.n)
			return all(r, s, e)
		}},
		{"TrimNets", "nets", func(x netArgs) []any { r, e := impl.TrimNets(x.f, x.nets, x.targets); return all(r, e) }},
		{"DutiesFor", "prices", func(x netArgs) []any { r, e := impl.DutiesFor(x.f, x.p, x.targets); return all(r, e) }},
		{"CheckDuties", "prices", func(x netArgs) []any {
			r, e := impl.CheckDuties(x.f, x.p, x.targets, x.duties)
			return all(r, e)
		}},
		{"DutyBound", "prices", func(x netArgs) []any {
			r, e := impl.DutyBound(x.f, x.p, x.targets, x.duties)
			return all(r, e)
		}},
		{"TwiceCovered", "nets", func(x netArgs) []any { r, e := impl.TwiceCovered(x.f, x.nets); return all(r, e) }},
		{"WithHoles", "nets", func(x netArgs) []any { r, e := impl.WithHoles(x.f, x.nets, x.holes); return all(r, e) }},
		{"HolesToMend", "nets", func(x netArgs) []any {
			r, e := impl.HolesToMend(x.f, x.nets, x.holes, x.targets)
			return all(r, e)
		}},
	}
}

func (c netCall) looksAtPrices() bool {
	return slices.Contains([]string{"prices", "prices and net", "prices and nets"}, c.looks)
}
func (c netCall) looksAtNet() bool { return c.looks == "net" || c.looks == "prices and net" }
func (c netCall) looksAtNets() bool {
	return c.looks == "nets" || c.looks == "prices and nets"
}

// goodNetArgs are valid for each function, and each one finds something.
func goodNetArgs(t *testing.T) netArgs {
	return netArgs{
		f:       birdField(t),
		p:       impl.Prices{Base: 5, Cell: 1},
		net:     goodNet(),
		nets:    []impl.Net{netAt(0, 0, 2, 1), goodNet(), netAt(1, 1, 3, 1), netAt(2, 0, 1, 2)},
		targets: setOf(0, 2, 13),
		holes:   setOf(2, 13),
		duties:  []int64{6, 2, 1},
		n:       11,
	}
}

// someNetArgs returns arguments that are valid, and such as are not valid in one way or in several.
func someNetArgs(t *testing.T) []netArgs {
	good := goodNetArgs(t)
	var list []netArgs
	with := func(how func(x *netArgs)) {
		x := good
		how(&x)
		list = append(list, x)
	}
	with(func(x *netArgs) {})
	with(func(x *netArgs) { x.nets, x.duties = nil, nil })
	with(func(x *netArgs) { x.targets, x.duties = impl.Cells{}, nil })
	with(func(x *netArgs) { x.targets, x.holes = withStrays(x.targets), everything() })
	with(func(x *netArgs) { x.targets, x.duties = setOf(3, 10), []int64{math.MaxInt64, math.MinInt64} })
	with(func(x *netArgs) { x.targets, x.duties = setOf(3, 10), []int64{math.MaxInt64, math.MaxInt64} })
	with(func(x *netArgs) { x.targets = setOf(99) })
	with(func(x *netArgs) { x.targets = everything() })
	with(func(x *netArgs) { x.duties = slices.Repeat([]int64{math.MaxInt64}, 3) })
	with(func(x *netArgs) { x.duties = slices.Repeat([]int64{math.MinInt64}, 3) })
	with(func(x *netArgs) { x.nets = slices.Repeat([]impl.Net{goodNet()}, 20) })
	with(func(x *netArgs) { x.nets = slices.Repeat([]impl.Net{goodNet()}, 21) })
	with(func(x *netArgs) {
		x.f, x.p, x.targets = plainField(t, 10, 10), impl.Prices{Base: 50, Cell: 1}, setOf(0, 5, 12, 27, 33, 48, 54, 66, 71, 79, 92, 99)
	})
	for _, f := range brokenFields() {
		with(func(x *netArgs) { x.f = f })
		with(func(x *netArgs) { x.f, x.p, x.targets, x.nets = f, impl.Prices{}, everything(), make([]impl.Net, 30) })
	}
	for _, p := range brokenPrices() {
		with(func(x *netArgs) { x.p = p })
	}
	for _, net := range brokenNets() {
		with(func(x *netArgs) { x.net, x.nets = net, []impl.Net{net} })
	}
	for _, nets := range brokenNetLists() {
		with(func(x *netArgs) { x.nets = nets })
	}
	return list
}

// P1: functions return for all arguments, with equal results for equal ones, and with zero values beside an error.
func TestP1NetCallsReturn(t *testing.T) {
	for _, call := range netCalls() {
		for _, x := range someNetArgs(t) {
			for _, n := range []int64{math.MinInt64, -1, 0, 1, 3, 11, 20, 99, 100, 20000, 20001, 65537, math.MaxInt64} {
				x.n = n
				checkTwice(t, call.name, x, func() []any { return call.result(x) })
			}
		}
	}
}

// P1: functions without a code return for all arguments, too.
func TestP1NetsWithoutCodes(t *testing.T) {
	for _, x := range someNetArgs(t) {
		want(t, "ValidNet", impl.ValidNet(x.f, x.net), impl.ValidNet(x.f, x.net))
		want(t, "ValidPrices", impl.ValidPrices(x.p), impl.ValidPrices(x.p))
		want(t, "NetsText", impl.NetsText(x.nets), impl.NetsText(x.nets))
	}
}

// wantInvalidNets expects ErrInvalid, whatever else is wrong with the other arguments.
func wantInvalidNets(t *testing.T, call netCall, name string, x netArgs) {
	t.Helper()
	for _, x.n = range []int64{0, 3, 99, -1, 20001} {
		for _, x.targets = range []impl.Cells{{}, setOf(0, 3), setOf(99), everything()} {
			results := call.result(x)
			want(t, call.name+" with "+name, results[len(results)-1], any(int64(impl.ErrInvalid)))
		}
	}
}

// P1, Validity: ErrInvalid comes before all other errors, for all that is not valid.
func TestP1InvalidNetsAreRefused(t *testing.T) {
	for _, call := range netCalls() {
		for name, f := range brokenFields() {
			x := goodNetArgs(t)
			x.f, x.net, x.nets = f, netAt(0, 0, 1, 1), nil
			wantInvalidNets(t, call, name, x)
			x.nets = slices.Repeat([]impl.Net{x.net}, 21)
			wantInvalidNets(t, call, name+" and too many nets", x)
		}
		for name, p := range brokenPrices() {
			if call.looksAtPrices() {
				x := goodNetArgs(t)
				x.p = p
				wantInvalidNets(t, call, name, x)
				x.nets = slices.Repeat([]impl.Net{x.net}, 21)
				wantInvalidNets(t, call, name+" and too many nets", x)
			}
		}
		for name, net := range brokenNets() {
			if call.looksAtNet() {
				x := goodNetArgs(t)
				x.net = net
				wantInvalidNets(t, call, name, x)
			}
		}
		for name, nets := range brokenNetLists() {
			if call.looksAtNets() {
				x := goodNetArgs(t)
				x.nets = nets
				wantInvalidNets(t, call, name, x)
			}
		}
	}
}

// P1, Purity: no argument is modified, nor the unused capacity of a slice.
func TestP1NetsAndDutiesStay(t *testing.T) {
	x := goodNetArgs(t)
	nets := append(slices.Clone(x.nets), netAt(-7, -7, -7, -7), goodNet())
	duties := []int64{6, 2, 1, -7, 300}
	netsBefore, dutiesBefore := slices.Clone(nets), slices.Clone(duties)
	for count := range len(nets) {
		x.nets, x.duties = nets[:count], duties[:min(count, 3)]
		for _, call := range netCalls() {
			for _, x.n = range []int64{0, 11, 20000} {
				for _, x.targets = range []impl.Cells{{}, setOf(0), setOf(1, 2), setOf(0, 2, 13), setOf(3, 11)} {
					call.result(x)
				}
			}
		}
		impl.NetsText(x.nets)
		want(t, "nets", nets, netsBefore)
		want(t, "duties", duties, dutiesBefore)
	}
}

// P1, Purity: lists that are returned share memory neither with an argument nor with each other.
func TestP1NetListsAreNew(t *testing.T) {
	for _, call := range netCalls() {
		x, before := goodNetArgs(t), goodNetArgs(t)
		if call.name == "FirstBare" {
			x.nets, before.nets = x.nets[:1], before.nets[:1]
		}
		if call.name == "CheapestNets" {
			x.n, before.n = impl.MaxTries, impl.MaxTries
		}
		first, second, third := call.result(x), call.result(x), call.result(x)
		want(t, call.name, first[len(first)-1], any(int64(impl.OK)))
		for _, result := range first {
			if v := reflect.ValueOf(result); v.Kind() == reflect.Slice {
				want(t, call.name+" has a list", v.Len() > 0, true)
			}
			wearAny(result)
		}
		want(t, call.name, second, third)
		want(t, call.name+", again", call.result(x), third)
		want(t, call.name+", its arguments", x, before)
	}
	one, _ := impl.ReadNets("0,0:3x1")
	two, _ := impl.ReadNets("0,0:3x1")
	wearAny(one)
	wantNets(t, "ReadNets", two, goodNet())
}

// P1: nets that are trimmed are a list of their own, even if none, or all, are left away.
func TestP1TrimmedNetsAreApart(t *testing.T) {
	f := birdField(t)
	backing := []impl.Net{goodNet(), netAt(1, 1, 3, 1), netAt(2, 0, 1, 2), netAt(-1, -1, -1, -1)}
	before := slices.Clone(backing)
	for _, targets := range []impl.Cells{{}, setOf(0), setOf(0, 13), setOf(12)} {
		for count := range 4 {
			nets, _ := impl.TrimNets(f, backing[:count], targets)
			wearAny(nets)
			want(t, "the nets, and the one behind them", backing, before)
		}
	}
}
