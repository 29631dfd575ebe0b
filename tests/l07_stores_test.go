package tests

import (
	"slices"
	"testing"

	"loop.example/g01338/impl"
)

func TestStoreAfter(t *testing.T) {
	for name, c := range map[string]struct {
		amount, mice, cats, days int64
		seeds, left              int64
	}{
		"no days":                                  {1000, 10, 3, 0, 1000, 10},
		"a day":                                    {1000, 10, 0, 1, 990, 10},
		"two days, rounded down":                   {1000, 10, 0, 2, 981, 10},
		"a store of 0":                             {0, 100, 0, 20, 0, 100},
		"no mice":                                  {1000, 0, 0, 20, 1000, 0},
		"no mice, and cats":                        {1000, 0, 10, 20, 1000, 0},
		"less than one seed":                       {99, 10, 0, 20, 99, 10},
		"just one seed":                            {100, 10, 0, 20, 99, 10},
		"the greatest store, 50 for the mouse":     {1000000, 1, 0, 1, 999950, 1},
		"the greatest store, 50 for each mouse":    {1000000, 100, 0, 1, 995000, 100},
		"the greatest store, MaxDays":              {1000000, 100, 0, 20, 900000, 100},
		"just 50 for each mouse":                   {50000, 100, 0, 1, 45000, 100},
		"one less than 50 for each mouse":          {49999, 100, 0, 1, 45000, 100},
		"two days with 50 for each mouse at first": {50001, 100, 0, 2, 40501, 100},
		"a cat":                               {1000, 10, 1, 1, 990, 9},
		"a cat, two days":                     {1000, 10, 1, 2, 982, 8},
		"cats that leave 0 mice":              {1000, 10, 10, 1, 990, 0},
		"cats that would leave fewer than 0":  {1000, 9, 10, 1, 991, 0},
		"no mice come back":                   {1000, 9, 10, 20, 991, 0},
		"cats that leave fewer on the second": {1000, 15, 10, 2, 981, 0},
		"the last mouse of all":               {1000, 20, 1, 20, 819, 0},
	} {
		seeds, mice, code := impl.StoreAfter(c.amount, c.mice, c.cats, c.days)
		want(t, name, [3]int64{seeds, mice, code}, [3]int64{c.seeds, c.left, impl.OK})
	}
}

// storeNumbers are some for amounts, mice, cats and days.
func storeNumbers() (amounts, mice, cats []int64) {
	return []int64{0, 1, 9, 10, 99, 100, 999, 1000, 1001, 4999, 49999, 50000, 50001, 123456, 999999, 1000000},
		[]int64{0, 1, 2, 9, 10, 11, 19, 50, 99, 100}, []int64{0, 1, 2, 5, 9, 10}
}

func TestStoresAreAsTold(t *testing.T) {
	amounts, mice, cats := storeNumbers()
	for _, amount := range amounts {
		for _, mouse := range mice {
			for _, cat := range cats {
				for days := range int64(21) {
					seeds, left, code := impl.StoreAfter(amount, mouse, cat, days)
					wantedSeeds, wantedMice := storeIn(amount, mouse, cat, days)
					want(t, "StoreAfter", [3]int64{seeds, left, code}, [3]int64{wantedSeeds, wantedMice, impl.OK})
				}
			}
		}
	}
}

func TestDaysOfStore(t *testing.T) {
	for name, c := range map[string]struct {
		amount, mice, cats, need int64
		days, code               int64
	}{
		"behind 0 days":                        {1000, 10, 0, 1001, 0, impl.OK},
		"just not behind 0 days":               {1000, 10, 0, 1000, 1, impl.OK},
		"behind a day":                         {1000, 10, 0, 991, 1, impl.OK},
		"just behind two days":                 {1000, 10, 0, 990, 2, impl.OK},
		"nothing is less than 1":               {0, 0, 0, 1, 0, impl.OK},
		"the greatest need":                    {999999, 0, 0, 1000000, 0, impl.OK},
		"the greatest need, and enough":        {1000000, 1, 0, 1000000, 1, impl.OK},
		"never, as there are no mice":          {1000, 0, 0, 1000, 0, impl.ErrNotFound},
		"never, as there are no mice any more": {1000, 9, 10, 991, 0, impl.ErrNotFound},
		"never, as so little is not eaten":     {99, 10, 0, 99, 0, impl.ErrNotFound},
		"behind MaxDays days":                  {1000000, 100, 0, 900001, 20, impl.OK},
		"the day behind MaxDays days":          {1000000, 100, 0, 900000, 0, impl.ErrNotFound},
		"just behind MaxDays days":             {1000000, 100, 0, 905000, 20, impl.OK},
		"behind MaxDays - 1 days":              {1000000, 100, 0, 905001, 19, impl.OK},
		"before the last mouse has gone":       {1000, 20, 1, 820, 19, impl.OK},
		"never, as all mice have gone":         {1000, 20, 1, 819, 0, impl.ErrNotFound},
	} {
		days, code := impl.DaysOfStore(c.amount, c.mice, c.cats, c.need)
		want(t, name, [2]int64{days, code}, [2]int64{c.days, c.code})
	}
}

func TestDaysOfStoresAreAsTold(t *testing.T) {
	amounts, mice, cats := storeNumbers()
	for _, amount := range amounts {
		for _, mouse := range mice {
			for _, cat := range cats {
				for days := range int64(21) {
					seeds, _ := storeIn(amount, mouse, cat, days)
					for need := max(1, seeds-1); need <= min(seeds+1, 1000000); need++ {
						got, code := impl.DaysOfStore(amount, mouse, cat, need)
						wantedDays, wantedCode := daysOfStoreIn(amount, mouse, cat, need)
						want(t, "DaysOfStore", [2]int64{got, code}, [2]int64{wantedDays, wantedCode})
					}
				}
			}
		}
	}
}

func TestErrorsOfStores(t *testing.T) {
	numbers := slices.Concat(farNumbers, []int64{5, 21, 999999, 1000000, 1000001})
	for _, n := range numbers {
		for name, c := range map[string]struct {
			amount, mice, cats, days, need int64
			isAfter, isDays                bool
		}{
			"amount": {n, 10, 1, 5, 1000000, n >= 0 && n <= 1000000, n >= 0 && n <= 1000000},
			"mice":   {1000, n, 1, 5, 1001, n >= 0 && n <= 100, n >= 0 && n <= 100},
			"cats":   {1000, 10, n, 5, 1001, n >= 0 && n <= 10, n >= 0 && n <= 10},
			"days":   {1000, 10, 1, n, 1001, n >= 0 && n <= 20, true},
			"need":   {0, 10, 1, 5, n, true, n >= 1 && n <= 1000000},
		} {
			seeds, mice, code := impl.StoreAfter(c.amount, c.mice, c.cats, c.days)
			if c.isAfter {
				wantCode(t, "StoreAfter, "+name, code, impl.OK)
			} else {
				want(t, "StoreAfter, "+name, [3]int64{seeds, mice, code}, [3]int64{0, 0, impl.ErrRange})
			}
			days, code := impl.DaysOfStore(c.amount, c.mice, c.cats, c.need)
			if c.isDays && !(name == "amount" && n == 1000000) {
				wantCode(t, "DaysOfStore, "+name, code, impl.OK)
			} else if !c.isDays {
				want(t, "DaysOfStore, "+name, [2]int64{days, code}, [2]int64{0, impl.ErrRange})
			}
		}
	}
	// A store that is never less than a need is an error behind all others.
	for _, c := range [][4]int64{{1000, 0, 0, 0}, {1000, 0, 0, 1000001}, {1000, 0, -1, 1}, {1000, -1, 0, 1}, {1000001, 0, 0, 1}, {1000, 101, 0, 1}, {1000, 0, 11, 1}} {
		days, code := impl.DaysOfStore(c[0], c[1], c[2], c[3])
		want(t, "DaysOfStore", [2]int64{days, code}, [2]int64{0, impl.ErrRange})
	}
}
