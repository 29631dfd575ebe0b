package tests

import (
	"slices"
	"testing"

	"loop.example/g01338/impl"
)

// threePlots are those for which brokenPlans are no plans.
func threePlots() []impl.Plot {
	return []impl.Plot{{Seeds: 10, Keep: 20, Loss: 1}, {Seeds: 9, Ripe: 1, Keep: 20, Loss: 2}, {Seeds: 5, Ripe: 19}}
}

// planCalls are the functions that are told a plan.
func planCalls() map[string]func(list []impl.Plot, hands int64, plan []int64) int64 {
	return map[string]func(list []impl.Plot, hands int64, plan []int64) int64{
		"WorthOf": func(list []impl.Plot, hands int64, plan []int64) int64 {
			worth, code := impl.WorthOf(list, hands, plan)
			if code != impl.OK && worth != 0 {
				return -1
			}
			return code
		},
		"LostBy": func(list []impl.Plot, hands int64, plan []int64) int64 {
			lost, code := impl.LostBy(list, hands, plan)
			if code != impl.OK && len(lost) != 0 {
				return -1
			}
			return code
		},
	}
}

// wantNoPlan expects that a plan is refused wherever one is told.
func wantNoPlan(t *testing.T, name string, list []impl.Plot, hands int64, plan []int64) {
	t.Helper()
	want(t, name, impl.ValidPlan(list, hands, plan), false)
	for call, run := range planCalls() {
		wantCode(t, call+", "+name, run(list, hands, plan), impl.ErrInvalid)
	}
}

func TestValidPlan(t *testing.T) {
	list := threePlots()
	for name, c := range map[string]struct {
		list  []impl.Plot
		hands int64
		plan  []int64
	}{
		"no plots":                            {nil, 1, nil},
		"no plots, MaxHands":                  {nil, 3, []int64{}},
		"never":                               {list, 1, []int64{-1, -1, -1}},
		"the first and the last day":          {list, 1, []int64{0, 19, -1}},
		"as many plots on a day as hands":     {list, 2, []int64{4, 0, 4}},
		"as many plots on each day as hands":  {plotsOf(goodPlot(), 6), 2, []int64{1, 0, 19, 0, 19, 1}},
		"three plots on a day":                {list, 3, []int64{7, 7, 7}},
		"six plots on two days":               {plotsOf(goodPlot(), 6), 3, []int64{7, 8, 7, 8, 8, 7}},
		"a hand, and a day for each plot":     {plotsOf(goodPlot(), 6), 1, []int64{5, 4, 3, 2, 1, 0}},
		"days on which they are worth 0":      {list, 1, []int64{19, 0, 1}},
		"very many of them never, and a hand": {plotsOf(goodPlot(), 6), 1, []int64{-1, -1, 0, -1, -1, -1}},
	} {
		want(t, name, impl.ValidPlan(c.list, c.hands, c.plan), true)
	}
	for name, plan := range brokenPlans() {
		wantNoPlan(t, name, list, 2, plan)
	}
	wantNoPlan(t, "two plots on a day, and a hand", list, 1, []int64{3, -1, 3})
	wantNoPlan(t, "two plots on the last day, and a hand", list, 1, []int64{-1, 19, 19})
	wantNoPlan(t, "four plots on a day, and MaxHands", plotsOf(goodPlot(), 6), 3, []int64{0, 1, 1, 2, 1, 1})
	wantNoPlan(t, "a number, and no plots", nil, 1, []int64{-1})
	for _, hands := range farNumbers {
		isFine := hands >= 1 && hands <= 3
		want(t, "hands", impl.ValidPlan(list, hands, []int64{0, 1, -1}), isFine)
		want(t, "hands, and no plots", impl.ValidPlan(nil, hands, nil), isFine)
		if !isFine {
			wantNoPlan(t, "such hands", list, hands, []int64{0, 1, -1})
			wantNoPlan(t, "such hands, and nothing to be done", list, hands, []int64{-1, -1, -1})
		}
	}
	for name, broken := range brokenPlots() {
		for _, hands := range []int64{1, 3, 0, 4} {
			wantNoPlan(t, "a plan for "+name, broken, hands, slices.Repeat([]int64{-1}, len(broken)))
			wantNoPlan(t, "no plan for "+name, broken, hands, nil)
		}
	}
}

func TestPlansAreValidAsTold(t *testing.T) {
	list := threePlots()
	days := []int64{-2, -1, 0, 1, 18, 19, 20}
	for hands := int64(0); hands <= 4; hands++ {
		for _, a := range days {
			for _, b := range days {
				for _, c := range days {
					plan := []int64{a, b, c}
					want(t, "ValidPlan", impl.ValidPlan(list, hands, plan), isPlanIn(list, hands, plan))
				}
			}
		}
	}
}

func TestWorthOfAndLostBy(t *testing.T) {
	list := threePlots()
	for name, c := range map[string]struct {
		list  []impl.Plot
		hands int64
		plan  []int64
		worth int64
		lost  []int64
	}{
		"no plots":                    {nil, 1, nil, 0, nil},
		"never":                       {list, 1, []int64{-1, -1, -1}, 0, []int64{10, 9, 5}},
		"each one on its first day":   {list, 1, []int64{0, 1, 19}, 24, []int64{0, 0, 0}},
		"each one a day later":        {list, 2, []int64{1, 2, -1}, 16, []int64{1, 2, 5}},
		"before they are ripe":        {list, 2, []int64{-1, 0, 0}, 0, []int64{10, 9, 5}},
		"when nothing is left":        {list, 2, []int64{10, 6, 18}, 0, []int64{10, 9, 5}},
		"when one is left":            {list, 2, []int64{9, 5, 18}, 2, []int64{9, 8, 5}},
		"on the last day":             {list, 3, []int64{19, 19, 19}, 5, []int64{10, 9, 0}},
		"the plan of the example":     {examplePlots(), 1, []int64{1, 0}, 16, []int64{2, 0}},
		"the other one of the plans":  {examplePlots(), 1, []int64{0, 1}, 14, []int64{0, 4}},
		"both of the example at once": {examplePlots(), 2, []int64{0, 0}, 18, []int64{0, 0}},
		"as much as can be":           {plotsOf(impl.Plot{Seeds: 1000, Keep: 20}, 6), 1, []int64{0, 1, 2, 3, 4, 19}, 6000, []int64{0, 0, 0, 0, 0, 0}},
	} {
		worth, code := impl.WorthOf(c.list, c.hands, c.plan)
		want(t, name, [2]int64{worth, code}, [2]int64{c.worth, impl.OK})
		lost, code := impl.LostBy(c.list, c.hands, c.plan)
		wantCode(t, name, code, impl.OK)
		wantList(t, name, lost, c.lost...)
	}
	for _, s := range someHarvests(60, 3, 5) {
		plansIn(s, func(plan []int64) {
			worth, code := impl.WorthOf(s.list, s.hands, plan)
			want(t, "WorthOf", [2]int64{worth, code}, [2]int64{worthOfPlan(s.list, plan), impl.OK})
			var wanted []int64
			for i, day := range plan {
				wanted = append(wanted, int64(s.list[i].Seeds)-worthIn(s.list[i], day))
			}
			lost, code := impl.LostBy(s.list, s.hands, plan)
			wantCode(t, "LostBy", code, impl.OK)
			wantList(t, "LostBy", lost, wanted...)
		})
	}
}

func TestGreedyPlan(t *testing.T) {
	for name, c := range map[string]struct {
		list        []impl.Plot
		hands, days int64
		plan        []int64
		worth       int64
	}{
		"no plots":                            {nil, 1, 20, nil, 0},
		"one day":                             {examplePlots(), 1, 1, []int64{0, -1}, 10},
		"worth less than the best one":        {examplePlots(), 1, 2, []int64{0, 1}, 14},
		"two hands":                           {examplePlots(), 2, 1, []int64{0, 0}, 18},
		"more hands than plots":               {examplePlots(), 3, 1, []int64{0, 0}, 18},
		"equal ones, the first one first":     {plotsOf(impl.Plot{Seeds: 4, Keep: 20}, 6), 1, 20, []int64{0, 1, 2, 3, 4, 5}, 24},
		"equal ones, two hands":               {plotsOf(impl.Plot{Seeds: 4, Keep: 20}, 6), 2, 2, []int64{0, 0, 1, 1, -1, -1}, 16},
		"equal ones, three hands":             {plotsOf(impl.Plot{Seeds: 4, Keep: 20}, 6), 3, 20, []int64{0, 0, 0, 1, 1, 1}, 24},
		"worth 0 on every day":                {[]impl.Plot{{Ripe: 2, Keep: 20}, {Seeds: 4, Ripe: 20}}, 3, 20, []int64{-1, -1}, 0},
		"some of them worth 0":                {[]impl.Plot{{}, {Seeds: 4, Keep: 1}, {Keep: 9}}, 3, 20, []int64{-1, 0, -1}, 4},
		"a day with nothing between":          {[]impl.Plot{{Seeds: 1, Ripe: 5}, {Seeds: 9, Ripe: 1}}, 1, 20, []int64{5, 1}, 10},
		"the last day":                        {[]impl.Plot{{Seeds: 1, Ripe: 19}}, 1, 20, []int64{19}, 1},
		"the day behind the last one":         {[]impl.Plot{{Seeds: 1, Ripe: 5}}, 1, 5, []int64{-1}, 0},
		"it has fallen before a hand is free": {[]impl.Plot{{Seeds: 3}, {Seeds: 2}, {Seeds: 4}}, 2, 20, []int64{0, -1, 0}, 7},
		"worth the same on the second day":    {[]impl.Plot{{Seeds: 9, Keep: 9, Loss: 5}, {Seeds: 8, Keep: 9, Loss: 4}, {Seeds: 4, Ripe: 1}}, 1, 20, []int64{0, 1, -1}, 13},
	} {
		plan, worth, code := impl.GreedyPlan(c.list, c.hands, c.days)
		wantPlan(t, name, plan, worth, code, c.plan, c.worth)
	}
	for _, s := range someHarvests(4000, 6, 20) {
		wanted := greedyPlanIn(s)
		plan, worth, code := impl.GreedyPlan(s.list, s.hands, s.days)
		wantPlan(t, "GreedyPlan", plan, worth, code, wanted, worthOfPlan(s.list, wanted))
	}
}

func TestBestPlan(t *testing.T) {
	slow := impl.Plot{Seeds: 4, Keep: 20}
	for name, c := range map[string]struct {
		list        []impl.Plot
		hands, days int64
		plan        []int64
		worth       int64
	}{
		"no plots":                             {nil, 3, 20, nil, 0},
		"one day":                              {examplePlots(), 1, 1, []int64{0, -1}, 10},
		"two days":                             {examplePlots(), 1, 2, []int64{1, 0}, 16},
		"two hands":                            {examplePlots(), 2, 20, []int64{0, 0}, 18},
		"more hands than plots":                {examplePlots(), 3, 20, []int64{0, 0}, 18},
		"equal ones, in ascending order":       {plotsOf(slow, 6), 1, 20, []int64{0, 1, 2, 3, 4, 5}, 24},
		"equal ones, too few days":             {plotsOf(slow, 6), 1, 4, []int64{-1, -1, 0, 1, 2, 3}, 16},
		"equal ones, too few days for two":     {plotsOf(slow, 6), 2, 2, []int64{-1, -1, 0, 0, 1, 1}, 16},
		"equal ones, three hands":              {plotsOf(slow, 6), 3, 20, []int64{0, 0, 0, 1, 1, 1}, 24},
		"equal ones, a day for three of them":  {plotsOf(slow, 6), 3, 1, []int64{-1, -1, -1, 0, 0, 0}, 12},
		"worth 0 on every day":                 {[]impl.Plot{{Ripe: 2, Keep: 20}, {Seeds: 4, Ripe: 20}, {}}, 3, 20, []int64{-1, -1, -1}, 0},
		"-1 before 0, for one that is worth 0": {[]impl.Plot{{}, {Seeds: 4}, {}}, 3, 20, []int64{-1, 0, -1}, 4},
		"-1 before 0, for the first of two":    {[]impl.Plot{{Seeds: 4}, {Seeds: 4}}, 1, 20, []int64{-1, 0}, 4},
		"the first of two days":                {[]impl.Plot{{Seeds: 4, Ripe: 3, Keep: 5}}, 1, 20, []int64{3}, 4},
		"the first plot on the first day":      {[]impl.Plot{slow, {Seeds: 4, Keep: 1}}, 1, 20, []int64{0, 1}, 8},
		"the second one falls first":           {[]impl.Plot{slow, {Seeds: 4}}, 1, 20, []int64{1, 0}, 8},
		"the last day":                         {[]impl.Plot{{Seeds: 1, Ripe: 19}}, 1, 20, []int64{19}, 1},
		"the day behind the last one":          {[]impl.Plot{{Seeds: 1, Ripe: 5}}, 1, 5, []int64{-1}, 0},
		"one is given up for the others":       {[]impl.Plot{{Seeds: 5, Keep: 1, Loss: 5}, {Seeds: 6, Keep: 1, Loss: 1}, {Seeds: 7, Keep: 1, Loss: 2}}, 1, 20, []int64{-1, 1, 0}, 12},
		"limits of all":                        {plotsOf(impl.Plot{Seeds: 1000, Ripe: 19, Keep: 20, Loss: 1000}, 6), 3, 20, []int64{-1, -1, -1, 19, 19, 19}, 3000},
	} {
		plan, worth, code := impl.BestPlan(c.list, c.hands, c.days)
		wantPlan(t, name, plan, worth, code, c.plan, c.worth)
	}
}

// All plans are gone through: of those that are worth most, the first one as a list counts.
func TestTheFirstOfTheBestPlansCounts(t *testing.T) {
	several := 0
	for _, s := range smallHarvests() {
		wanted, most := bestPlanIn(s)
		plan, worth, code := impl.BestPlan(s.list, s.hands, s.days)
		wantPlan(t, "BestPlan", plan, worth, code, wanted, most)
		count := 0
		plansIn(s, func(plan []int64) {
			if worthOfPlan(s.list, plan) == most {
				count++
			}
		})
		if count > 1 && most > 0 {
			several++
		}
	}
	want(t, "there are many with several best plans", several > 500, true)
}

// The same with as many plots and days as there can be.
func TestBestPlansOfManyPlots(t *testing.T) {
	for i, s := range smallHarvests() {
		if i%20 == 0 {
			plan, most := bestPlanByNumbers(s)
			wanted, worth := bestPlanIn(s)
			wantPlan(t, "the reference", plan, most, impl.OK, wanted, worth)
		}
	}
	better := 0
	for _, s := range someHarvests(1500, 6, 20) {
		wanted, most := bestPlanByNumbers(s)
		plan, worth, code := impl.BestPlan(s.list, s.hands, s.days)
		wantPlan(t, "BestPlan", plan, worth, code, wanted, most)
		if most > worthOfPlan(s.list, greedyPlanIn(s)) {
			better++
		}
	}
	want(t, "there are some that are better than greedy ones", better > 50, true)
}

func TestWorthBound(t *testing.T) {
	for name, c := range map[string]struct {
		list        []impl.Plot
		days, bound int64
	}{
		"no plots":                   {nil, 20, 0},
		"the example":                {examplePlots(), 20, 18},
		"one day":                    {examplePlots(), 1, 18},
		"worth 0 on every day":       {[]impl.Plot{{}, {Seeds: 7, Ripe: 20}}, 20, 0},
		"some that are ripe in time": {threePlots(), 19, 19},
		"all are ripe in time":       {threePlots(), 20, 24},
		"one of them":                {threePlots(), 1, 10},
		"as much as can be":          {plotsOf(impl.Plot{Seeds: 1000}, 6), 1, 6000},
	} {
		bound, code := impl.WorthBound(c.list, c.days)
		want(t, name, [2]int64{bound, code}, [2]int64{c.bound, impl.OK})
	}
	for _, s := range someHarvests(500, 6, 20) {
		sum := int64(0)
		for _, p := range s.list {
			most := int64(0)
			for day := range s.days {
				most = max(most, worthIn(p, day))
			}
			sum += most
		}
		bound, code := impl.WorthBound(s.list, s.days)
		want(t, "WorthBound", [2]int64{bound, code}, [2]int64{sum, impl.OK})
	}
}

func TestHandsFor(t *testing.T) {
	six := plotsOf(impl.Plot{Seeds: 4}, 6)
	for name, c := range map[string]struct {
		list        []impl.Plot
		days, worth int64
		hands, code int64
	}{
		"worth 0":                         {examplePlots(), 1, 0, 1, impl.OK},
		"worth 0, and no plots":           {nil, 1, 0, 1, impl.OK},
		"worth 1, and no plots":           {nil, 1, 1, 0, impl.ErrNotFound},
		"just reached with a hand":        {examplePlots(), 2, 16, 1, impl.OK},
		"just not reached with a hand":    {examplePlots(), 2, 17, 2, impl.OK},
		"just reached with two hands":     {examplePlots(), 2, 18, 2, impl.OK},
		"not reached":                     {examplePlots(), 2, 19, 0, impl.ErrNotFound},
		"one day":                         {examplePlots(), 1, 11, 2, impl.OK},
		"three hands":                     {six, 1, 9, 3, impl.OK},
		"just reached with MaxHands":      {six, 20, 12, 3, impl.OK},
		"just not reached with MaxHands":  {six, 20, 13, 0, impl.ErrNotFound},
		"more than there can be":          {six, 20, 1<<63 - 1, 0, impl.ErrNotFound},
		"the greedy plan is not enough":   {examplePlots(), 20, 15, 1, impl.OK},
		"as much as can be":               {plotsOf(impl.Plot{Seeds: 1000, Keep: 20}, 6), 2, 6000, 3, impl.OK},
		"as much as can be, and one more": {plotsOf(impl.Plot{Seeds: 1000, Keep: 20}, 6), 2, 6001, 0, impl.ErrNotFound},
	} {
		hands, code := impl.HandsFor(c.list, c.days, c.worth)
		want(t, name, [2]int64{hands, code}, [2]int64{c.hands, c.code})
	}
	for _, s := range someHarvests(150, 5, 4) {
		for s.hands = 1; s.hands <= 3; s.hands++ {
			most := mostBehind(s, nil)
			for worth := max(0, most-1); worth <= most+1; worth++ {
				wanted, wantedCode := int64(0), int64(impl.ErrNotFound)
				for _, hands := range []int64{3, 2, 1} {
					if mostBehind(harvestScene{s.list, hands, s.days}, nil) >= worth {
						wanted, wantedCode = hands, impl.OK
					}
				}
				hands, code := impl.HandsFor(s.list, s.days, worth)
				want(t, "HandsFor", [2]int64{hands, code}, [2]int64{wanted, wantedCode})
			}
		}
	}
}

func TestErrorsOfPlanning(t *testing.T) {
	makers := map[string]func(list []impl.Plot, hands, days int64) ([]int64, int64, int64){"GreedyPlan": impl.GreedyPlan, "BestPlan": impl.BestPlan}
	for _, list := range [][]impl.Plot{nil, examplePlots(), plotsOf(goodPlot(), 6)} {
		for _, n := range farNumbers {
			for name, run := range makers {
				plan, worth, code := run(list, n, 5)
				want(t, name+" with hands", code == impl.OK, n >= 1 && n <= 3)
				if n < 1 || n > 3 {
					wantCode(t, name+" without hands", code, impl.ErrRange)
					wantList(t, name+" without hands", plan)
					want(t, name+" without hands", worth, 0)
				}
				plan, worth, code = run(list, 2, n)
				want(t, name+" with days", code == impl.OK, n >= 1 && n <= 20)
				if n < 1 || n > 20 {
					wantCode(t, name+" without days", code, impl.ErrRange)
					wantList(t, name+" without days", plan)
					want(t, name+" without days", worth, 0)
				}
			}
			bound, code := impl.WorthBound(list, n)
			want(t, "WorthBound", code == impl.OK, n >= 1 && n <= 20)
			if n < 1 || n > 20 {
				want(t, "WorthBound without days", [2]int64{bound, code}, [2]int64{0, impl.ErrRange})
			}
			for _, worth := range []int64{0, 1, 7000, -1} {
				hands, code := impl.HandsFor(list, n, worth)
				if n < 1 || n > 20 || worth < 0 {
					want(t, "HandsFor without days", [2]int64{hands, code}, [2]int64{0, impl.ErrRange})
				} else if worth == 7000 {
					wantCode(t, "HandsFor too much", code, impl.ErrNotFound)
				}
			}
			hands, code := impl.HandsFor(list, 5, n)
			if n < 0 {
				want(t, "HandsFor less than 0", [2]int64{hands, code}, [2]int64{0, impl.ErrRange})
			} else {
				want(t, "HandsFor is not ErrRange", code == impl.OK || code == impl.ErrNotFound, true)
			}
		}
	}
	for name, broken := range brokenPlots() {
		for _, n := range farNumbers {
			for call, run := range makers {
				_, _, code := run(broken, n, n)
				wantCode(t, call+" for "+name, code, impl.ErrInvalid)
			}
			_, code := impl.WorthBound(broken, n)
			wantCode(t, "WorthBound for "+name, code, impl.ErrInvalid)
			_, code = impl.HandsFor(broken, n, n)
			wantCode(t, "HandsFor for "+name, code, impl.ErrInvalid)
		}
	}
}
