package tests

import (
	"math/rand/v2"
	"slices"
	"strconv"
	"testing"

	"loop.example/g01338/impl"
)

// harvestScene is plots, with hands and days for which plans are made.
type harvestScene struct {
	list  []impl.Plot
	hands int64
	days  int64
}

// someHarvests returns scenes with up to six plots; few different numbers make many ties, and plots that are worth nothing.
func someHarvests(count int, mostPlots int, mostDays int64) []harvestScene {
	r := rand.New(rand.NewPCG(41, 42))
	var scenes []harvestScene
	for i := range count {
		s := harvestScene{hands: 1 + r.Int64N(3), days: 1 + r.Int64N(mostDays)}
		for range r.IntN(mostPlots + 1) {
			s.list = append(s.list, somePlot(r, i%3 == 0))
		}
		scenes = append(scenes, s)
	}
	return scenes
}

// smallHarvests are scenes for which all plans can be gone through.
func smallHarvests() []harvestScene {
	scenes := someHarvests(1500, 3, 7)
	scenes = append(scenes, someHarvests(1000, 4, 4)...)
	return append(scenes, someHarvests(400, 6, 2)...)
}

func somePlot(r *rand.Rand, any bool) impl.Plot {
	if any {
		return impl.Plot{Seeds: int16(r.IntN(1001)), Ripe: int16(r.IntN(21)), Keep: int16(r.IntN(21)), Loss: int16(r.IntN(200))}
	}
	return impl.Plot{
		Seeds: []int16{0, 1, 4, 8, 8, 10, 1000}[r.IntN(7)],
		Ripe:  []int16{0, 0, 0, 1, 2, 3, 19, 20}[r.IntN(8)],
		Keep:  []int16{0, 1, 2, 5, 20, 20}[r.IntN(6)],
		Loss:  []int16{0, 0, 1, 2, 4, 999, 1000}[r.IntN(7)],
	}
}

// worthIn tells, without the package, what a plot is worth on a day: it goes from day to day, as birds eat.
func worthIn(p impl.Plot, day int64) int64 {
	if day < int64(p.Ripe) || day > int64(p.Ripe)+int64(p.Keep) {
		return 0
	}
	seeds := int64(p.Seeds)
	for range day - int64(p.Ripe) {
		seeds -= min(seeds, int64(p.Loss))
	}
	return seeds
}

// worthOfPlan tells, without the package, what a plan is worth.
func worthOfPlan(list []impl.Plot, plan []int64) int64 {
	sum := int64(0)
	for i, day := range plan {
		if day >= 0 {
			sum += worthIn(list[i], day)
		}
	}
	return sum
}

// isPlanIn tells, without the package, whether a plan is valid for plots that are.
func isPlanIn(list []impl.Plot, hands int64, plan []int64) bool {
	if hands < 1 || hands > 3 || len(plan) != len(list) {
		return false
	}
	for _, day := range plan {
		same := int64(0)
		for _, other := range plan {
			if other == day {
				same++
			}
		}
		if day < -1 || day > 19 || day >= 0 && same > hands {
			return false
		}
	}
	return true
}

// plansIn goes through all valid plans of a scene, in ascending order.
func plansIn(s harvestScene, look func(plan []int64)) {
	var longer func(plan []int64)
	longer = func(plan []int64) {
		if len(plan) == len(s.list) {
			if isPlanIn(s.list, s.hands, plan) {
				look(plan)
			}
			return
		}
		for day := int64(-1); day < s.days; day++ {
			longer(append(slices.Clone(plan), day))
		}
	}
	longer(nil)
}

// bestPlanIn returns the first one of the plans that are worth most, and what it is worth, told without the package.
func bestPlanIn(s harvestScene) ([]int64, int64) {
	var best []int64
	most := int64(-1)
	plansIn(s, func(plan []int64) {
		if worth := worthOfPlan(s.list, plan); worth > most {
			best, most = plan, worth
		}
	})
	return best, most
}

// mostBehind tells, without the package, what the best one of all plans is worth that begin with some numbers, -1 if there are none.
func mostBehind(s harvestScene, begin []int64) int64 {
	var busy [20]int64
	sum := int64(0)
	for i, day := range begin {
		if day >= 0 {
			busy[day]++
			sum += worthIn(s.list[i], day)
		}
	}
	// most has what the plots of each set are worth, harvested on the days before.
	var most [64]int64
	for day := range s.days {
		if busy[day] > s.hands {
			return -1
		}
		for range s.hands - busy[day] {
			most = withOneMore(s, len(begin), day, most)
		}
	}
	return sum + slices.Max(most[:])
}

// withOneMore lets one hand harvest one plot at most, on a day.
func withOneMore(s harvestScene, first int, day int64, most [64]int64) [64]int64 {
	more := most
	for set := range 1 << len(s.list) {
		for i := first; i < len(s.list); i++ {
			if set>>i&1 == 1 {
				more[set] = max(more[set], most[set&^(1<<i)]+worthIn(s.list[i], day))
			}
		}
	}
	return more
}

// bestPlanByNumbers is bestPlanIn for scenes with very many plans: it looks for one number of the list behind the other.
func bestPlanByNumbers(s harvestScene) ([]int64, int64) {
	var plan []int64
	most := mostBehind(s, nil)
	for range s.list {
		day := int64(-1)
		for mostBehind(s, append(slices.Clone(plan), day)) < most {
			day++
		}
		plan = append(plan, day)
	}
	return plan, most
}

// greedyPlanIn tells, without the package, what GreedyPlan returns: on each day the plots that are left are put in order, and the first ones are taken.
func greedyPlanIn(s harvestScene) []int64 {
	plan := slices.Repeat([]int64{-1}, len(s.list))
	for day := range s.days {
		var left []int
		for i, p := range s.list {
			if plan[i] < 0 && worthIn(p, day) > 0 {
				left = append(left, i)
			}
		}
		slices.SortStableFunc(left, func(a, b int) int { return int(worthIn(s.list[b], day) - worthIn(s.list[a], day)) })
		for _, i := range left[:min(len(left), int(s.hands))] {
			plan[i] = day
		}
	}
	return plan
}

// storeIn tells, without the package, what there is in a store behind some days.
func storeIn(amount, mice, cats, days int64) (int64, int64) {
	for day := range days {
		now := max(0, mice-cats*day)
		eaten := amount * now / 1000
		if eaten > 50*now {
			eaten = 50 * now
		}
		amount -= eaten
	}
	return amount, max(0, mice-cats*days)
}

// daysOfStoreIn tells, without the package, what DaysOfStore returns.
func daysOfStoreIn(amount, mice, cats, need int64) (int64, int64) {
	for days := range int64(21) {
		if seeds, _ := storeIn(amount, mice, cats, days); seeds < need {
			return days, impl.OK
		}
	}
	return 0, impl.ErrNotFound
}

// examplePlots are those of the chapter's example.
func examplePlots() []impl.Plot {
	return []impl.Plot{{Seeds: 10, Ripe: 0, Keep: 5, Loss: 2}, {Seeds: 8, Ripe: 0, Keep: 5, Loss: 4}}
}

func goodPlot() impl.Plot { return impl.Plot{Seeds: 9, Ripe: 2, Keep: 3, Loss: 2} }

// plotsOf returns a plot several times.
func plotsOf(p impl.Plot, count int) []impl.Plot {
	return slices.Repeat([]impl.Plot{p}, count)
}

// limitsOfPlots has the parts of plots, and their greatest numbers.
func limitsOfPlots() map[string]struct {
	part func(p *impl.Plot) *int16
	most int16
} {
	return map[string]struct {
		part func(p *impl.Plot) *int16
		most int16
	}{
		"seeds": {func(p *impl.Plot) *int16 { return &p.Seeds }, 1000},
		"ripe":  {func(p *impl.Plot) *int16 { return &p.Ripe }, 20},
		"keep":  {func(p *impl.Plot) *int16 { return &p.Keep }, 20},
		"loss":  {func(p *impl.Plot) *int16 { return &p.Loss }, 1000},
	}
}

// brokenPlots returns lists of plots that are not valid, each in one way.
func brokenPlots() map[string][]impl.Plot {
	broken := map[string][]impl.Plot{
		"one more than MaxPlots": plotsOf(goodPlot(), 7),
		"very many":              plotsOf(goodPlot(), 300),
		"seven that are zero":    make([]impl.Plot, 7),
	}
	for name, limit := range limitsOfPlots() {
		for _, n := range []int16{-1, limit.most + 1, -32768, 32767, -256, limit.most + -32768} {
			p := goodPlot()
			*limit.part(&p) = n
			words := name + " " + strconv.Itoa(int(n))
			broken[words] = []impl.Plot{p}
			broken[words+" first"] = append([]impl.Plot{p}, plotsOf(goodPlot(), 2)...)
			broken[words+" last"] = append(plotsOf(goodPlot(), 5), p)
		}
	}
	return broken
}

// brokenPlans returns plans that are not valid for three plots and two hands, each in one way.
func brokenPlans() map[string][]int64 {
	return map[string][]int64{
		"fewer numbers":                    {0, 1},
		"more numbers":                     {0, 1, 2, 3},
		"no numbers":                       nil,
		"a day -2 first":                   {-2, 0, 1},
		"a day -2 last":                    {0, 1, -2},
		"a day MaxDays":                    {0, 20, 1},
		"a day MaxDays last":               {0, 1, 20},
		"a day 256":                        {256, -1, -1},
		"the least day":                    {0, -1 << 63, 1},
		"the greatest day":                 {0, 1, 1<<63 - 1},
		"three plots on the first day":     {0, 0, 0},
		"three plots on the last day":      {19, 19, 19},
		"a plot never, and fewer numbers":  {-1, 0},
		"never, and more numbers":          {-1, -1, -1, -1},
		"a day less than all ints of 32":   {-1 << 33, 0, 1},
		"a day that is 0 as an int8":       {1 << 8, 0, 1},
		"a day that is never as an int16":  {1<<16 - 1, 0, 1},
		"a day that is never as an uint32": {1<<32 - 1, 0, 1},
	}
}

// wantPlan expects a plan, and what it is worth.
func wantPlan(t *testing.T, name string, got []int64, worth, code int64, wanted []int64, wantedWorth int64) {
	t.Helper()
	wantCode(t, name, code, impl.OK)
	wantList(t, name, got, wanted...)
	want(t, name+": what it is worth", worth, wantedWorth)
}

// diaryScene is a field, and a diary of which some entries may be wrong.
type diaryScene struct {
	f     impl.Field
	diary []impl.Entry
}

// someDiaries returns scenes of all sizes; in some of them no entry is wrong.
func someDiaries() []diaryScene {
	r := rand.New(rand.NewPCG(43, 44))
	var scenes []diaryScene
	for i := range 6 {
		for _, f := range someFields() {
			s := diaryScene{f: f}
			now := f
			for range r.IntN(101) {
				e := someEntry(r, now)
				if i == 0 {
					e = impl.Entry{What: int8(r.IntN(4)), Cell: int16(r.IntN(100)), Amount: int16(1 + r.IntN(3))}
				}
				if behind, code := entryIn(now, e); code == impl.OK {
					now = behind
				} else if i > 2 {
					continue
				}
				s.diary = append(s.diary, e)
			}
			scenes = append(scenes, s)
		}
	}
	return scenes
}

// someEntry is nearly always in order for a field with soil.
func someEntry(r *rand.Rand, f impl.Field) impl.Entry {
	if r.IntN(300) == 0 {
		return impl.Entry{What: int8(r.IntN(6) - 1), Cell: int16(r.IntN(102) - 1), Amount: int16(r.IntN(1003) - 1)}
	}
	var soil []int64
	for n := range int64(100) {
		if isSoilCell(f, n) {
			soil = append(soil, n)
		}
	}
	if len(soil) == 0 {
		return impl.Entry{What: impl.DiSow, Cell: 0, Amount: 1}
	}
	cell := soil[r.IntN(len(soil))]
	seeds := int(f.Seeds[cell])
	if what := int8(r.IntN(4)); what != impl.DiSow && seeds > 0 {
		return impl.Entry{What: what, Cell: int16(cell), Amount: int16(1 + r.IntN(seeds))}
	}
	return impl.Entry{What: impl.DiSow, Cell: int16(cell), Amount: int16(min(1+r.IntN(400), max(1, 1000-seeds)))}
}

// entryIn tells, without the package, what ApplyEntry returns for a valid field.
func entryIn(f impl.Field, e impl.Entry) (impl.Field, int64) {
	if e.What < 0 || e.What > 3 || !isCell(f, int64(e.Cell)) || e.Amount < 1 || e.Amount > 1000 {
		return impl.Field{}, impl.ErrRange
	}
	if f.Kinds[e.Cell] != impl.KiSoil {
		return impl.Field{}, impl.ErrState
	}
	if e.What == 0 {
		f.Seeds[e.Cell] += e.Amount
		if f.Seeds[e.Cell] > 1000 {
			return impl.Field{}, impl.ErrLimit
		}
		return f, impl.OK
	}
	f.Seeds[e.Cell] -= e.Amount
	if f.Seeds[e.Cell] < 0 {
		return impl.Field{}, impl.ErrProof
	}
	return f, impl.OK
}

// firstWrongIn tells, without the package, the first wrong entry and its error, -1 if there is none.
func firstWrongIn(s diaryScene) (int64, int64) {
	now := s.f
	for i, e := range s.diary {
		behind, code := entryIn(now, e)
		if code != impl.OK {
			return int64(i), code
		}
		now = behind
	}
	return -1, impl.OK
}

func entryOf(what int8, cell, amount int16) impl.Entry {
	return impl.Entry{What: what, Cell: cell, Amount: amount}
}

// wantEntries takes nil and empty lists for equal ones.
func wantEntries(t *testing.T, name string, got []impl.Entry, wanted ...impl.Entry) {
	t.Helper()
	if !slices.Equal(got, wanted) {
		t.Errorf("%s: got %v, want %v", name, got, wanted)
	}
}

// wantPlots takes nil and empty lists for equal ones.
func wantPlots(t *testing.T, name string, got []impl.Plot, wanted ...impl.Plot) {
	t.Helper()
	if !slices.Equal(got, wanted) {
		t.Errorf("%s: got %v, want %v", name, got, wanted)
	}
}
