package tests

import (
	"math"
	"math/rand/v2"
	"slices"
	"testing"

	"loop.example/g01338/impl"
)

func TestFewestShifts(t *testing.T) {
	for _, c := range []struct {
		name   string
		need   []int64
		length int64
		starts []int64
	}{
		{"no hours", nil, 1, nil},
		{"no hours, an empty list", []int64{}, 48, nil},
		{"nothing is needed", []int64{0, 0, 0}, 2, nil},
		{"one hour", []int64{1}, 1, []int64{0}},
		{"one hour, several watchers", []int64{3}, 1, []int64{0, 0, 0}},
		{"one hour, and longer shifts", []int64{2}, 48, []int64{0, 0}},
		{"shifts of one hour", []int64{1, 0, 2, 1}, 1, []int64{0, 2, 2, 3}},
		{"shifts of 2 hours", []int64{1, 2, 1, 1}, 2, []int64{0, 1, 3}},
		{"shifts of 3 hours", []int64{1, 2, 1, 1}, 3, []int64{0, 1}},
		{"as long as there are hours", []int64{1, 2, 1, 1}, 4, []int64{0, 1}},
		{"longer than there are hours", []int64{1, 2, 1, 4}, 9, []int64{0, 1, 3, 3}},
		{"not from the first hour on", []int64{0, 0, 1, 1, 1, 0}, 2, []int64{2, 4}},
		{"fewer and fewer", []int64{3, 2, 1}, 1, []int64{0, 0, 0, 1, 1, 2}},
		{"enough from before", []int64{3, 2, 1, 3}, 3, []int64{0, 0, 0, 3, 3, 3}},
		{"some end, and some go on", []int64{1, 3, 3, 3, 3}, 3, []int64{0, 1, 1, 3, 4, 4}},
		{"needs of 20", []int64{20, 20}, 2, slices.Repeat([]int64{0}, 20)},
	} {
		starts, code := impl.FewestShifts(c.need, c.length)
		wantCode(t, c.name, code, impl.OK)
		wantList(t, c.name, starts, c.starts...)
	}
	full := slices.Repeat([]int64{20}, 48)
	starts, code := impl.FewestShifts(full, 1)
	wantCode(t, "MaxHours, and shifts of 1", code, impl.OK)
	want(t, "MaxHours, and shifts of 1", len(starts), 960)
	starts, code = impl.FewestShifts(full, 48)
	wantCode(t, "MaxHours, and shifts of MaxHours", code, impl.OK)
	wantList(t, "MaxHours, and shifts of MaxHours", starts, slices.Repeat([]int64{0}, 20)...)
	starts, code = impl.FewestShifts(full, 47)
	wantCode(t, "MaxHours, and shifts of one less", code, impl.OK)
	wantList(t, "MaxHours, and shifts of one less", starts, slices.Concat(slices.Repeat([]int64{0}, 20), slices.Repeat([]int64{47}, 20))...)
}

// shiftCalls are the functions with needs and a length, and their code; FewestShifts gets no starts.
func shiftCalls() map[string]func(need []int64, length int64, starts []int64) int64 {
	return map[string]func(need []int64, length int64, starts []int64) int64{
		"FewestShifts": func(need []int64, length int64, _ []int64) int64 { _, e := impl.FewestShifts(need, length); return e },
		"CheckShifts": func(need []int64, length int64, starts []int64) int64 {
			_, e := impl.CheckShifts(need, length, starts)
			return e
		},
		"FirstShort": func(need []int64, length int64, starts []int64) int64 {
			_, _, e := impl.FirstShort(need, length, starts)
			return e
		},
	}
}

func TestRangesOfShifts(t *testing.T) {
	for name, call := range shiftCalls() {
		for hours := range 120 {
			for _, n := range []int64{0, 1, 20} {
				code := call(slices.Repeat([]int64{n}, hours), 1, nil)
				want(t, name+" with hours", code == impl.ErrRange, hours > 48)
			}
		}
		wantCode(t, name+" with a million hours", call(make([]int64, 1000000), 1, nil), impl.ErrRange)
		for _, n := range append([]int64{20, 21}, farNumbers...) {
			for hour := range 5 {
				need := []int64{1, 0, 20, 0, 1}
				need[hour] = n
				want(t, name+" with a need", call(need, 1, nil) == impl.ErrRange, n < 0 || n > 20)
			}
			for _, need := range [][]int64{nil, {0}, {1, 2}, make([]int64, 48)} {
				want(t, name+" with a length", call(need, n, nil) == impl.ErrRange, n < 1 || n > 48)
			}
		}
		for _, length := range []int64{1, 2, 47, 48} {
			want(t, name+" with a length", call([]int64{1, 2}, length, nil) == impl.ErrRange, false)
		}
		wantCode(t, name+" with a length of 49", call(nil, 49, nil), impl.ErrRange)
		wantCode(t, name+" with a length of 0", call([]int64{0}, 0, nil), impl.ErrRange)
	}
}

func TestRangesOfStarts(t *testing.T) {
	for _, name := range []string{"CheckShifts", "FirstShort"} {
		call := shiftCalls()[name]
		for _, hours := range []int{0, 1, 2, 5, 47, 48} {
			need := make([]int64, hours)
			for _, n := range append([]int64{46, 47, 48, 49}, farNumbers...) {
				isNone := n < 0 || n >= int64(hours)
				want(t, name+" with a start", call(need, 3, []int64{n}) == impl.ErrRange, isNone)
				if hours > 0 {
					want(t, name+" with a start behind another one", call(need, 3, []int64{0, n}) == impl.ErrRange, isNone)
					want(t, name+" with a start before another one", call(need, 3, []int64{n, 0}) == impl.ErrRange, isNone)
				}
			}
		}
		wantCode(t, name+" with a start, but no hours", call(nil, 1, []int64{0}), impl.ErrRange)
	}
}

func TestCheckShiftsAndFirstShort(t *testing.T) {
	for _, c := range []struct {
		name          string
		need          []int64
		length        int64
		starts        []int64
		hour, missing int64
	}{
		{"no hours", nil, 3, nil, -1, 0},
		{"nothing is needed", []int64{0, 0}, 1, nil, -1, 0},
		{"no shifts", []int64{0, 4, 0, 1}, 1, nil, 1, 4},
		{"the first hour is short", []int64{2, 2}, 2, []int64{0, 1}, 0, 1},
		{"the last hour is short", []int64{1, 1, 1}, 2, []int64{0}, 2, 1},
		{"enough", []int64{1, 1, 1}, 2, []int64{0, 2}, -1, 0},
		{"enough, in another order", []int64{1, 1, 1}, 2, []int64{2, 0}, -1, 0},
		{"more than enough", []int64{1, 1, 1}, 2, []int64{0, 0, 0, 2, 2, 1}, -1, 0},
		{"starts that come twice", []int64{2, 2, 1}, 2, []int64{0, 0, 1}, -1, 0},
		{"starts that come twice are not enough", []int64{3, 2, 1}, 2, []int64{0, 0, 1}, 0, 1},
		{"too many before, and too few later", []int64{0, 0, 0, 3, 9}, 2, []int64{0, 0, 0, 0, 0, 2, 2}, 3, 1},
		{"shifts longer than there are hours", []int64{1, 1, 1}, 48, []int64{0}, -1, 0},
		{"shifts that begin in the last hour", []int64{0, 0, 2}, 48, []int64{2, 2}, -1, 0},
		{"not before they begin", []int64{0, 1, 2}, 48, []int64{2, 2}, 1, 1},
		{"needs of 20", []int64{20}, 1, nil, 0, 20},
		{"the example", []int64{1, 2, 1, 1}, 2, []int64{0, 1, 3}, -1, 0},
		{"the example without one", []int64{1, 2, 1, 1}, 2, []int64{0, 1}, 3, 1},
		{"very many", []int64{20, 20}, 1, make([]int64, 900000), 1, 20},
		{"very many long ones", slices.Repeat([]int64{20}, 48), 48, make([]int64, 900000), -1, 0},
	} {
		fine, code := impl.CheckShifts(c.need, c.length, c.starts)
		wantCode(t, c.name, code, impl.OK)
		want(t, c.name, fine, c.hour < 0)
		hour, missing, code := impl.FirstShort(c.need, c.length, c.starts)
		if c.hour < 0 {
			want(t, c.name, [3]int64{hour, missing, code}, [3]int64{0, 0, impl.ErrNotFound})
		} else {
			want(t, c.name, [3]int64{hour, missing, code}, [3]int64{c.hour, c.missing, impl.OK})
		}
	}
	hour, missing, code := impl.FirstShort([]int64{0, 0}, 1, []int64{2})
	want(t, "no hour, and none is short", [3]int64{hour, missing, code}, [3]int64{0, 0, impl.ErrRange})
	hour, missing, code = impl.FirstShort([]int64{0, 0}, math.MaxInt64, nil)
	want(t, "no length, and none is short", [3]int64{hour, missing, code}, [3]int64{0, 0, impl.ErrRange})
}

// someNeed returns how many watchers are needed in some hours.
func someNeed(r *rand.Rand, hours, most int) []int64 {
	need := make([]int64, hours)
	for i := range need {
		need[i] = int64(r.IntN(most + 1))
	}
	return need
}

// P12: shifts that are told are enough, and as told: one begins only in an hour that is short without it.
func TestP12ShiftsAreEnough(t *testing.T) {
	r := rand.New(rand.NewPCG(25, 26))
	for range 3000 {
		need, length := someNeed(r, r.IntN(49), 1+r.IntN(20)), 1+int64(r.IntN(48))
		if r.IntN(2) == 0 {
			length = 1 + int64(r.IntN(8))
		}
		starts, code := impl.FewestShifts(need, length)
		wantCode(t, "FewestShifts", code, impl.OK)
		var wanted []int64
		for hour := range need {
			for missingIn(need, length, wanted)[hour] > 0 {
				wanted = append(wanted, int64(hour))
			}
		}
		wantList(t, "FewestShifts", starts, wanted...)
		fine, code := impl.CheckShifts(need, length, starts)
		wantCode(t, "CheckShifts", code, impl.OK)
		want(t, "CheckShifts", fine, true)
		for i := range starts {
			fine, _ := impl.CheckShifts(need, length, slices.Delete(slices.Clone(starts), i, i+1))
			want(t, "without one of the shifts", fine, false)
		}
	}
}

// P12: no fewer shifts are enough, of all that there are.
func TestP12NoFewerShiftsAreEnough(t *testing.T) {
	r := rand.New(rand.NewPCG(27, 28))
	for range 1000 {
		need, length := someNeed(r, r.IntN(6), 1+r.IntN(3)), 1+int64(r.IntN(6))
		starts, code := impl.FewestShifts(need, length)
		wantCode(t, "FewestShifts", code, impl.OK)
		want(t, "FewestShifts", len(starts), fewestStarts(need, length))
	}
}

// P12: what is told of shifts that begin anywhere is as told; and no fewer ones of them are enough than are told.
func TestP12AnyShiftsAreAsTold(t *testing.T) {
	r := rand.New(rand.NewPCG(29, 30))
	enough, short := 0, 0
	for range 5000 {
		need, length := someNeed(r, 1+r.IntN(12), 1+r.IntN(4)), 1+int64(r.IntN(14))
		fewest, _ := impl.FewestShifts(need, length)
		starts := slices.Clone(fewest)
		for range r.IntN(4) {
			starts = append(starts, int64(r.IntN(len(need))))
		}
		r.Shuffle(len(starts), func(i, j int) { starts[i], starts[j] = starts[j], starts[i] })
		starts = starts[:len(starts)-min(len(starts), r.IntN(3))]
		missing := missingIn(need, length, starts)
		first := slices.IndexFunc(missing, func(n int64) bool { return n > 0 })
		fine, code := impl.CheckShifts(need, length, starts)
		wantCode(t, "CheckShifts", code, impl.OK)
		want(t, "CheckShifts", fine, first < 0)
		hour, n, code := impl.FirstShort(need, length, starts)
		if first < 0 {
			enough++
			want(t, "FirstShort", [3]int64{hour, n, code}, [3]int64{0, 0, impl.ErrNotFound})
			want(t, "fewer are enough", len(starts) < len(fewest), false)
		} else {
			short++
			want(t, "FirstShort", [3]int64{hour, n, code}, [3]int64{int64(first), missing[first], impl.OK})
		}
	}
	want(t, "there are many of both", enough > 500 && short > 500, true)
}
