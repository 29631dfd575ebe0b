package tests

import (
	"math"
	"testing"

	"loop.example/g01338/impl"
)

func TestConstantsOfHarvest(t *testing.T) {
	want(t, "limits", [4]int64{impl.MaxDays, impl.MaxPlots, impl.MaxHands, impl.MaxDiary}, [4]int64{20, 6, 3, 100})
	want(t, "what entries tell", [4]int8{impl.DiSow, impl.DiEat, impl.DiTake, impl.DiFall}, [4]int8{0, 1, 2, 3})
}

// The example of the chapter.
func TestExampleOfHarvest(t *testing.T) {
	list := examplePlots()
	for days := int64(2); days <= impl.MaxDays; days++ {
		plan, worth, code := impl.BestPlan(list, 1, days)
		wantPlan(t, "BestPlan", plan, worth, code, []int64{1, 0}, 16)
		plan, worth, code = impl.GreedyPlan(list, 1, days)
		wantPlan(t, "GreedyPlan", plan, worth, code, []int64{0, 1}, 14)
		bound, code := impl.WorthBound(list, days)
		want(t, "WorthBound", [2]int64{bound, code}, [2]int64{18, impl.OK})
		hands, code := impl.HandsFor(list, days, 18)
		want(t, "HandsFor", [2]int64{hands, code}, [2]int64{2, impl.OK})
	}
	want(t, "the plots and both plans are valid", impl.ValidPlots(list) && impl.ValidPlan(list, 1, []int64{1, 0}) && impl.ValidPlan(list, 1, []int64{0, 1}), true)
	worth, code := impl.WorthOf(list, 1, []int64{1, 0})
	want(t, "WorthOf", [2]int64{worth, code}, [2]int64{16, impl.OK})
	lost, code := impl.LostBy(list, 1, []int64{1, 0})
	wantCode(t, "LostBy", code, impl.OK)
	wantList(t, "LostBy", lost, 2, 0)
	for plot, seeds := range []int64{10, 8} {
		day, best, code := impl.BestDay(list, int64(plot), 6)
		want(t, "BestDay", [3]int64{day, best, code}, [3]int64{0, seeds, impl.OK})
	}
	worth, code = impl.WorthOn(list, 0, 1)
	want(t, "WorthOn", [2]int64{worth, code}, [2]int64{8, impl.OK})
	seeds, mice, code := impl.StoreAfter(1000, 10, 0, 1)
	want(t, "a store behind a day", [3]int64{seeds, mice, code}, [3]int64{990, 10, impl.OK})
	seeds, mice, code = impl.StoreAfter(1000, 10, 0, 2)
	want(t, "a store behind 2 days", [3]int64{seeds, mice, code}, [3]int64{981, 10, impl.OK})
	days, code := impl.DaysOfStore(1000, 10, 0, 990)
	want(t, "less than 990", [2]int64{days, code}, [2]int64{2, impl.OK})
}

func TestValidPlots(t *testing.T) {
	want(t, "no plots", impl.ValidPlots(nil), true)
	want(t, "an empty list", impl.ValidPlots([]impl.Plot{}), true)
	want(t, "zero", impl.ValidPlots([]impl.Plot{{}}), true)
	for count := range 7 {
		want(t, "plots", impl.ValidPlots(plotsOf(goodPlot(), count)), true)
	}
	want(t, "all limits", impl.ValidPlots(plotsOf(impl.Plot{Seeds: 1000, Ripe: 20, Keep: 20, Loss: 1000}, 6)), true)
	for name, list := range brokenPlots() {
		want(t, name, impl.ValidPlots(list), false)
	}
	for name, limit := range limitsOfPlots() {
		for n := math.MinInt16; n <= math.MaxInt16; n++ {
			p := goodPlot()
			*limit.part(&p) = int16(n)
			want(t, name, impl.ValidPlots([]impl.Plot{p}), n >= 0 && n <= int(limit.most))
		}
	}
	want(t, "very many", impl.ValidPlots(make([]impl.Plot, 250000)), false)
}

func TestWorthOn(t *testing.T) {
	for name, c := range map[string]struct {
		plot  impl.Plot
		day   int64
		worth int64
	}{
		"before Ripe":                          {goodPlot(), 1, 0},
		"on Ripe":                              {goodPlot(), 2, 9},
		"the day behind Ripe":                  {goodPlot(), 3, 7},
		"on Ripe + Keep":                       {goodPlot(), 5, 3},
		"behind Ripe + Keep":                   {goodPlot(), 6, 0},
		"the day 0, before Ripe":               {goodPlot(), 0, 0},
		"the day 200":                          {goodPlot(), 200, 0},
		"the day 0, on Ripe":                   {impl.Plot{Seeds: 4}, 0, 4},
		"Keep 0, on Ripe":                      {impl.Plot{Seeds: 4, Ripe: 7}, 7, 4},
		"Keep 0, behind Ripe":                  {impl.Plot{Seeds: 4, Ripe: 7}, 8, 0},
		"Loss 0, on the last day":              {impl.Plot{Seeds: 1000, Ripe: 20, Keep: 20}, 40, 1000},
		"Loss 0, behind the last day":          {impl.Plot{Seeds: 1000, Ripe: 20, Keep: 20}, 41, 0},
		"just 0":                               {impl.Plot{Seeds: 8, Keep: 9, Loss: 2}, 4, 0},
		"just before 0":                        {impl.Plot{Seeds: 8, Keep: 9, Loss: 2}, 3, 2},
		"less than 0":                          {impl.Plot{Seeds: 8, Keep: 9, Loss: 2}, 5, 0},
		"less than 0, and not a whole loss":    {impl.Plot{Seeds: 7, Keep: 9, Loss: 2}, 4, 0},
		"1, as it is not a whole loss":         {impl.Plot{Seeds: 7, Keep: 9, Loss: 2}, 3, 1},
		"the greatest loss, on Ripe":           {impl.Plot{Seeds: 1000, Ripe: 1, Keep: 20, Loss: 1000}, 1, 1000},
		"the greatest loss":                    {impl.Plot{Seeds: 1000, Ripe: 1, Keep: 20, Loss: 1000}, 2, 0},
		"the greatest loss, many days":         {impl.Plot{Seeds: 1, Keep: 20, Loss: 1000}, 20, 0},
		"no seeds":                             {impl.Plot{Ripe: 3, Keep: 4}, 3, 0},
		"no seeds, which become less":          {impl.Plot{Ripe: 3, Keep: 4, Loss: 5}, 4, 0},
		"as many days behind Ripe as it keeps": {impl.Plot{Seeds: 41, Ripe: 20, Keep: 20, Loss: 2}, 40, 1},
	} {
		worth, code := impl.WorthOn([]impl.Plot{c.plot}, 0, c.day)
		want(t, name, [2]int64{worth, code}, [2]int64{c.worth, impl.OK})
		worth, code = impl.WorthOn([]impl.Plot{{}, {Seeds: 999, Keep: 20}, c.plot}, 2, c.day)
		want(t, name+", as the last plot", [2]int64{worth, code}, [2]int64{c.worth, impl.OK})
	}
	for _, s := range someHarvests(200, 6, 20) {
		for i, p := range s.list {
			for day := range int64(201) {
				worth, code := impl.WorthOn(s.list, int64(i), day)
				want(t, "WorthOn", [2]int64{worth, code}, [2]int64{worthIn(p, day), impl.OK})
			}
		}
	}
}

func TestBestDay(t *testing.T) {
	for name, c := range map[string]struct {
		plot       impl.Plot
		days       int64
		day, worth int64
	}{
		"ripe from the first day on":       {impl.Plot{Seeds: 9, Keep: 5, Loss: 1}, 20, 0, 9},
		"ripe later":                       {goodPlot(), 20, 2, 9},
		"ripe on the last day":             {goodPlot(), 3, 2, 9},
		"not ripe yet":                     {goodPlot(), 2, 0, 0},
		"never ripe":                       {impl.Plot{Seeds: 9, Ripe: 20, Keep: 20}, 20, 0, 0},
		"ripe on the last one of all days": {impl.Plot{Seeds: 9, Ripe: 19}, 20, 19, 9},
		"several days":                     {impl.Plot{Seeds: 9, Ripe: 3, Keep: 20}, 20, 3, 9},
		"no seeds":                         {impl.Plot{Ripe: 3, Keep: 20}, 20, 0, 0},
		"one day":                          {impl.Plot{Seeds: 1}, 1, 0, 1},
		"one day, and not ripe":            {impl.Plot{Seeds: 1, Ripe: 1}, 1, 0, 0},
	} {
		day, worth, code := impl.BestDay([]impl.Plot{{Seeds: 1000, Keep: 20}, c.plot}, 1, c.days)
		want(t, name, [3]int64{day, worth, code}, [3]int64{c.day, c.worth, impl.OK})
	}
	for _, s := range someHarvests(300, 6, 20) {
		for i, p := range s.list {
			best := int64(0)
			for day := range s.days {
				if worthIn(p, day) > worthIn(p, best) {
					best = day
				}
			}
			day, worth, code := impl.BestDay(s.list, int64(i), s.days)
			want(t, "BestDay", [3]int64{day, worth, code}, [3]int64{best, worthIn(p, best), impl.OK})
		}
	}
}

func TestErrorsOfPlots(t *testing.T) {
	list := examplePlots()
	for _, n := range farNumbers {
		worth, code := impl.WorthOn(list, n, 0)
		want(t, "WorthOn a plot", code == impl.OK, n == 0 || n == 1)
		if n != 0 && n != 1 {
			want(t, "WorthOn no plot", [2]int64{worth, code}, [2]int64{0, impl.ErrRange})
		}
		worth, code = impl.WorthOn(list, 0, n)
		want(t, "WorthOn a day", code == impl.OK, n >= 0 && n <= 200)
		if n < 0 || n > 200 {
			want(t, "WorthOn no day", [2]int64{worth, code}, [2]int64{0, impl.ErrRange})
		}
		day, worth, code := impl.BestDay(list, n, 5)
		want(t, "BestDay of a plot", code == impl.OK, n == 0 || n == 1)
		if n != 0 && n != 1 {
			want(t, "BestDay of no plot", [3]int64{day, worth, code}, [3]int64{0, 0, impl.ErrRange})
		}
		day, worth, code = impl.BestDay(list, 1, n)
		want(t, "BestDay of days", code == impl.OK, n >= 1 && n <= 20)
		if n < 1 || n > 20 {
			want(t, "BestDay of no days", [3]int64{day, worth, code}, [3]int64{0, 0, impl.ErrRange})
		}
		_, code = impl.WorthOn(nil, n, 0)
		wantCode(t, "WorthOn, and no plots", code, impl.ErrRange)
		_, _, code = impl.BestDay(nil, n, 1)
		wantCode(t, "BestDay, and no plots", code, impl.ErrRange)
		for name, broken := range brokenPlots() {
			_, code = impl.WorthOn(broken, n, n)
			wantCode(t, "WorthOn, and "+name, code, impl.ErrInvalid)
			_, _, code = impl.BestDay(broken, n, n)
			wantCode(t, "BestDay, and "+name, code, impl.ErrInvalid)
		}
	}
}

func TestPlotsOf(t *testing.T) {
	f := fieldOf(t, "3 h 5 0", "t 2 0 p", "1000 0 0 1")
	plots, code := impl.PlotsOf(f, 1, 2, 3)
	wantCode(t, "PlotsOf", code, impl.OK)
	wantPlots(t, "PlotsOf", plots,
		impl.Plot{Seeds: 3, Ripe: 1, Keep: 2, Loss: 3}, impl.Plot{Seeds: 5, Ripe: 1, Keep: 2, Loss: 3}, impl.Plot{Seeds: 2, Ripe: 1, Keep: 2, Loss: 3},
		impl.Plot{Seeds: 1000, Ripe: 1, Keep: 2, Loss: 3}, impl.Plot{Seeds: 1, Ripe: 1, Keep: 2, Loss: 3})
	for _, rows := range [][]string{{"0"}, {"h"}, {"t p", "0 0"}, {"0 0 0 0 0 0 0 0 0 0"}} {
		plots, code = impl.PlotsOf(fieldOf(t, rows...), 20, 20, 1000)
		wantCode(t, "no seeds", code, impl.OK)
		wantPlots(t, "no seeds", plots)
	}
	plots, code = impl.PlotsOf(fieldOf(t, "7 7 7 0", "h 7 7 7"), 0, 0, 0)
	wantCode(t, "MaxPlots", code, impl.OK)
	wantPlots(t, "MaxPlots", plots, plotsOf(impl.Plot{Seeds: 7}, 6)...)
	plots, code = impl.PlotsOf(fieldOf(t, "7 7 7 7", "h 7 7 7"), 0, 0, 0)
	wantCode(t, "one more than MaxPlots", code, impl.ErrLimit)
	wantPlots(t, "one more than MaxPlots", plots)
	plots, code = impl.PlotsOf(plainField(t, 10, 10), 20, 20, 1000)
	wantCode(t, "100 cells with seeds", code, impl.ErrLimit)
	wantPlots(t, "100 cells with seeds", plots)
	for _, f := range someFields() {
		var wanted []impl.Plot
		for _, seeds := range f.Seeds {
			if seeds > 0 {
				wanted = append(wanted, impl.Plot{Seeds: seeds, Ripe: 20, Keep: 4, Loss: 1000})
			}
		}
		plots, code := impl.PlotsOf(f, 20, 4, 1000)
		if len(wanted) > 6 {
			wantCode(t, "PlotsOf", code, impl.ErrLimit)
			wantPlots(t, "PlotsOf", plots)
			continue
		}
		wantCode(t, "PlotsOf", code, impl.OK)
		wantPlots(t, "PlotsOf", plots, wanted...)
		want(t, "they are valid", impl.ValidPlots(plots), true)
	}
}

func TestErrorsOfPlotsOf(t *testing.T) {
	few, many, none := fieldOf(t, "3 h 5"), plainField(t, 10, 10), fieldOf(t, "h")
	for _, n := range farNumbers {
		for name, c := range map[string]struct {
			ripe, keep, loss int64
			fine             bool
		}{
			"ripe": {n, 1, 1, n >= 0 && n <= 20},
			"keep": {1, n, 1, n >= 0 && n <= 20},
			"loss": {1, 1, n, n >= 0 && n <= 1000},
		} {
			plots, code := impl.PlotsOf(few, c.ripe, c.keep, c.loss)
			if c.fine {
				wantCode(t, name, code, impl.OK)
				wantPlots(t, name, plots, impl.Plot{Seeds: 3, Ripe: int16(c.ripe), Keep: int16(c.keep), Loss: int16(c.loss)}, impl.Plot{Seeds: 5, Ripe: int16(c.ripe), Keep: int16(c.keep), Loss: int16(c.loss)})
				continue
			}
			for _, f := range []impl.Field{few, many, none} {
				plots, code := impl.PlotsOf(f, c.ripe, c.keep, c.loss)
				wantCode(t, name, code, impl.ErrRange)
				wantPlots(t, name, plots)
			}
			for broken, f := range brokenFields() {
				_, code := impl.PlotsOf(f, c.ripe, c.keep, c.loss)
				wantCode(t, name+" and "+broken, code, impl.ErrInvalid)
			}
		}
	}
}
