package tests

import (
	"slices"
	"testing"

	"loop.example/g01338/impl"
)

// diaryField has cells of all kinds; 0 has 3 seeds, 2 has 1000, 11 has 2 and 12 has none.
func diaryField(t *testing.T) impl.Field {
	t.Helper()
	return fieldOf(t, "3 h 1000", "t 2 0", "p 7 1")
}

// goodDiary is in order for diaryField.
func goodDiary() []impl.Entry {
	return []impl.Entry{
		entryOf(impl.DiSow, 12, 10), entryOf(impl.DiEat, 2, 999), entryOf(impl.DiTake, 12, 4), entryOf(impl.DiFall, 0, 3), entryOf(impl.DiSow, 0, 1), entryOf(impl.DiEat, 12, 6),
	}
}

// entryCases tell what comes of entries on diaryField.
func entryCases() map[string]struct {
	e     impl.Entry
	seeds int16
	code  int64
} {
	return map[string]struct {
		e     impl.Entry
		seeds int16
		code  int64
	}{
		"sown":                             {entryOf(impl.DiSow, 0, 5), 8, impl.OK},
		"eaten":                            {entryOf(impl.DiEat, 0, 2), 1, impl.OK},
		"harvested":                        {entryOf(impl.DiTake, 0, 2), 1, impl.OK},
		"fallen":                           {entryOf(impl.DiFall, 0, 2), 1, impl.OK},
		"sown, where there are none":       {entryOf(impl.DiSow, 12, 1), 1, impl.OK},
		"MaxSeeds sown":                    {entryOf(impl.DiSow, 12, 1000), 1000, impl.OK},
		"sown up to MaxSeeds":              {entryOf(impl.DiSow, 0, 997), 1000, impl.OK},
		"sown, and one more than MaxSeeds": {entryOf(impl.DiSow, 0, 998), 0, impl.ErrLimit},
		"MaxSeeds sown beside others":      {entryOf(impl.DiSow, 11, 1000), 0, impl.ErrLimit},
		"one sown to MaxSeeds":             {entryOf(impl.DiSow, 2, 1), 0, impl.ErrLimit},
		"MaxSeeds sown to MaxSeeds":        {entryOf(impl.DiSow, 2, 1000), 0, impl.ErrLimit},
		"all eaten":                        {entryOf(impl.DiEat, 0, 3), 0, impl.OK},
		"all harvested":                    {entryOf(impl.DiTake, 0, 3), 0, impl.OK},
		"all fallen":                       {entryOf(impl.DiFall, 0, 3), 0, impl.OK},
		"all and one more eaten":           {entryOf(impl.DiEat, 0, 4), 0, impl.ErrProof},
		"all and one more harvested":       {entryOf(impl.DiTake, 0, 4), 0, impl.ErrProof},
		"all and one more fallen":          {entryOf(impl.DiFall, 0, 4), 0, impl.ErrProof},
		"MaxSeeds eaten":                   {entryOf(impl.DiEat, 2, 1000), 0, impl.OK},
		"MaxSeeds taken of too few":        {entryOf(impl.DiTake, 11, 1000), 0, impl.ErrProof},
		"one fallen of none":               {entryOf(impl.DiFall, 12, 1), 0, impl.ErrProof},
		"the last cell":                    {entryOf(impl.DiTake, 22, 1), 0, impl.OK},
		"What -1":                          {entryOf(-1, 0, 1), 0, impl.ErrRange},
		"What 4":                           {entryOf(4, 0, 1), 0, impl.ErrRange},
		"What -128":                        {entryOf(-128, 0, 1), 0, impl.ErrRange},
		"What 127":                         {entryOf(127, 0, 1), 0, impl.ErrRange},
		"What 4, on a hedge":               {entryOf(4, 1, 1), 0, impl.ErrRange},
		"the cell -1":                      {entryOf(impl.DiEat, -1, 1), 0, impl.ErrRange},
		"the cell -10":                     {entryOf(impl.DiEat, -10, 1), 0, impl.ErrRange},
		"the cell 3, east of the field":    {entryOf(impl.DiSow, 3, 1), 0, impl.ErrRange},
		"the cell 30, south of the field":  {entryOf(impl.DiSow, 30, 1), 0, impl.ErrRange},
		"the cell 99":                      {entryOf(impl.DiSow, 99, 1), 0, impl.ErrRange},
		"the cell 100":                     {entryOf(impl.DiSow, 100, 1), 0, impl.ErrRange},
		"the cell 256":                     {entryOf(impl.DiSow, 256, 1), 0, impl.ErrRange},
		"the least cell":                   {entryOf(impl.DiSow, -32768, 1), 0, impl.ErrRange},
		"the greatest cell":                {entryOf(impl.DiSow, 32767, 1), 0, impl.ErrRange},
		"the amount 0":                     {entryOf(impl.DiSow, 0, 0), 0, impl.ErrRange},
		"the amount 0, eaten":              {entryOf(impl.DiEat, 0, 0), 0, impl.ErrRange},
		"the amount -1":                    {entryOf(impl.DiSow, 0, -1), 0, impl.ErrRange},
		"the amount -1, fallen":            {entryOf(impl.DiFall, 0, -1), 0, impl.ErrRange},
		"the amount 1001":                  {entryOf(impl.DiSow, 12, 1001), 0, impl.ErrRange},
		"the amount 1001, taken":           {entryOf(impl.DiTake, 2, 1001), 0, impl.ErrRange},
		"the greatest amount":              {entryOf(impl.DiSow, 12, 32767), 0, impl.ErrRange},
		"the least amount":                 {entryOf(impl.DiEat, 12, -32768), 0, impl.ErrRange},
		"the amount 0, on a hedge":         {entryOf(impl.DiSow, 1, 0), 0, impl.ErrRange},
		"the amount 1001, on a tree":       {entryOf(impl.DiEat, 10, 1001), 0, impl.ErrRange},
		"sown on a hedge":                  {entryOf(impl.DiSow, 1, 1), 0, impl.ErrState},
		"MaxSeeds sown on a path":          {entryOf(impl.DiSow, 20, 1000), 0, impl.ErrState},
		"eaten on a tree":                  {entryOf(impl.DiEat, 10, 1), 0, impl.ErrState},
		"taken on a path":                  {entryOf(impl.DiTake, 20, 1000), 0, impl.ErrState},
		"fallen on a hedge":                {entryOf(impl.DiFall, 1, 7), 0, impl.ErrState},
	}
}

func TestApplyEntry(t *testing.T) {
	f := diaryField(t)
	for name, c := range entryCases() {
		got, code := impl.ApplyEntry(f, c.e)
		wantCode(t, name, code, c.code)
		wanted := impl.Field{}
		if c.code == impl.OK {
			wanted = f
			wanted.Seeds[c.e.Cell] = c.seeds
		}
		want(t, name, got, wanted)
		for broken, f := range brokenFields() {
			got, code := impl.ApplyEntry(f, c.e)
			wantCode(t, name+" and a field with "+broken, code, impl.ErrInvalid)
			want(t, name+" and a field with "+broken, got, impl.Field{})
		}
	}
}

func TestEntriesAreAsTold(t *testing.T) {
	var seen [9]bool
	for _, f := range someFields() {
		for _, what := range []int8{-1, 0, 1, 2, 3, 4} {
			for cell := int16(-1); cell <= 100; cell++ {
				for _, amount := range []int16{0, 1, 2, 7, 8, 993, 994, 999, 1000, 1001} {
					e := entryOf(what, cell, amount)
					wanted, wantedCode := entryIn(f, e)
					got, code := impl.ApplyEntry(f, e)
					if code != wantedCode || got != wanted {
						t.Fatalf("%v: code %d, want %d", e, code, wantedCode)
					}
					seen[code] = true
				}
			}
		}
	}
	want(t, "all errors are found", seen, [9]bool{impl.OK: true, impl.ErrRange: true, impl.ErrState: true, impl.ErrLimit: true, impl.ErrProof: true})
}

func TestReplayDiary(t *testing.T) {
	f := diaryField(t)
	behind, sums, code := impl.ReplayDiary(f, goodDiary())
	wantCode(t, "ReplayDiary", code, impl.OK)
	want(t, "the field", impl.FieldText(behind), "1 h 1\nt 2 0\np 7 1\n")
	want(t, "the sums", sums, [4]int64{impl.DiSow: 11, impl.DiEat: 1005, impl.DiTake: 4, impl.DiFall: 3})
	for _, none := range [][]impl.Entry{nil, {}} {
		behind, sums, code = impl.ReplayDiary(f, none)
		wantCode(t, "no entries", code, impl.OK)
		want(t, "no entries", behind, f)
		want(t, "no entries", sums, [4]int64{})
	}
	for what := range int8(4) {
		behind, sums, code = impl.ReplayDiary(f, []impl.Entry{entryOf(what, 0, 2)})
		wantCode(t, "one entry", code, impl.OK)
		wanted := [4]int64{}
		wanted[what] = 2
		want(t, "one entry", sums, wanted)
		want(t, "one entry", behind.Seeds[0], map[bool]int16{true: 5, false: 1}[what == impl.DiSow])
	}
	_, sums, code = impl.ReplayDiary(fieldOf(t, "0"), backAndForth(100))
	wantCode(t, "MaxDiary", code, impl.OK)
	want(t, "the greatest sums", sums, [4]int64{50000, 0, 50000, 0})
	behind, sums, code = impl.ReplayDiary(fieldOf(t, "0"), backAndForth(101))
	wantCode(t, "one more than MaxDiary", code, impl.ErrLimit)
	want(t, "one more than MaxDiary", behind, impl.Field{})
	want(t, "one more than MaxDiary", sums, [4]int64{})
}

// backAndForth sows MaxSeeds, and takes them, again and again.
func backAndForth(count int) []impl.Entry {
	return slices.Repeat([]impl.Entry{entryOf(impl.DiSow, 0, 1000), entryOf(impl.DiTake, 0, 1000)}, 1+count/2)[:count]
}

func TestFirstWrong(t *testing.T) {
	f := diaryField(t)
	for name, c := range entryCases() {
		if c.code == impl.OK {
			continue
		}
		// What is sown in another cell does not change what is wrong.
		other := entryOf(impl.DiSow, 21, 1)
		for _, at := range []int64{0, 1, 50, 98, 99} {
			diary := slices.Repeat([]impl.Entry{other}, 100)
			diary[at] = c.e
			wantWrong(t, name, f, diary, at, c.code)
			wantWrong(t, name+" at the end", f, diary[:at+1], at, c.code)
			if at < 99 {
				diary[99] = entryOf(9, -9, -9)
				wantWrong(t, name+" and another one behind it", f, diary, at, c.code)
			}
		}
		wantWrong(t, name+" alone", f, []impl.Entry{c.e}, 0, c.code)
	}
	wantWrong(t, "seeds that have been eaten before", f, []impl.Entry{entryOf(impl.DiEat, 0, 2), entryOf(impl.DiTake, 0, 2)}, 1, impl.ErrProof)
	wantWrong(t, "a cell that has been filled before", f, []impl.Entry{entryOf(impl.DiSow, 0, 997), entryOf(impl.DiSow, 11, 1), entryOf(impl.DiSow, 0, 1)}, 2, impl.ErrLimit)
	for _, right := range [][]impl.Entry{nil, {}, goodDiary(), slices.Repeat([]impl.Entry{entryOf(impl.DiSow, 21, 1)}, 100)} {
		at, wrong, code := impl.FirstWrong(f, right)
		want(t, "no entry is wrong", [3]int64{at, wrong, code}, [3]int64{0, 0, impl.ErrNotFound})
	}
}

// wantWrong expects that an entry is wrong, and that the diary cannot be replayed.
func wantWrong(t *testing.T, name string, f impl.Field, diary []impl.Entry, index, wanted int64) {
	t.Helper()
	at, wrong, code := impl.FirstWrong(f, diary)
	want(t, name, [3]int64{at, wrong, code}, [3]int64{index, wanted, impl.OK})
	behind, sums, code := impl.ReplayDiary(f, diary)
	wantCode(t, name+", replayed", code, wanted)
	want(t, name+", replayed", behind, impl.Field{})
	want(t, name+", replayed", sums, [4]int64{})
}

func TestDiariesAreReplayedAsTold(t *testing.T) {
	right, wrong := 0, 0
	for _, s := range someDiaries() {
		index, wanted := firstWrongIn(s)
		at, found, code := impl.FirstWrong(s.f, s.diary)
		if index >= 0 {
			wrong++
			want(t, "FirstWrong", [3]int64{at, found, code}, [3]int64{index, wanted, impl.OK})
			behind, sums, code := impl.ReplayDiary(s.f, s.diary)
			wantCode(t, "ReplayDiary", code, wanted)
			want(t, "ReplayDiary", isNothing(behind) && isNothing(sums), true)
			continue
		}
		right++
		want(t, "FirstWrong", [3]int64{at, found, code}, [3]int64{0, 0, impl.ErrNotFound})
		now, wantedSums := s.f, [4]int64{}
		for _, e := range s.diary {
			now, _ = entryIn(now, e)
			wantedSums[e.What] += int64(e.Amount)
		}
		behind, sums, code := impl.ReplayDiary(s.f, s.diary)
		wantCode(t, "ReplayDiary", code, impl.OK)
		want(t, "ReplayDiary", behind, now)
		want(t, "ReplayDiary", sums, wantedSums)
	}
	want(t, "there are many of both", right > 200 && wrong > 100, true)
}

func TestErrorsOfDiaries(t *testing.T) {
	f := diaryField(t)
	long := backAndForth(101)
	wrong := slices.Repeat([]impl.Entry{entryOf(9, -1, -1)}, 101)
	for name, diary := range map[string][]impl.Entry{"one more than MaxDiary": long, "all of them wrong": wrong, "very many": make([]impl.Entry, 300000)} {
		at, found, code := impl.FirstWrong(f, diary)
		want(t, name, [3]int64{at, found, code}, [3]int64{0, 0, impl.ErrLimit})
		behind, sums, code := impl.ReplayDiary(f, diary)
		wantCode(t, name, code, impl.ErrLimit)
		want(t, name, isNothing(behind) && isNothing(sums), true)
	}
	for name, broken := range brokenFields() {
		for _, diary := range [][]impl.Entry{nil, goodDiary(), long, wrong, wrong[:1]} {
			at, found, code := impl.FirstWrong(broken, diary)
			want(t, "FirstWrong on a field with "+name, [3]int64{at, found, code}, [3]int64{0, 0, impl.ErrInvalid})
			behind, sums, code := impl.ReplayDiary(broken, diary)
			wantCode(t, "ReplayDiary on a field with "+name, code, impl.ErrInvalid)
			want(t, "ReplayDiary on a field with "+name, isNothing(behind) && isNothing(sums), true)
		}
	}
}

func TestDiaryOf(t *testing.T) {
	f := diaryField(t)
	for name, c := range map[string]struct {
		rows  []string
		diary []impl.Entry
	}{
		"equal fields":           {[]string{"3 h 1000", "t 2 0", "p 7 1"}, nil},
		"one cell with more":     {[]string{"3 h 1000", "t 2 1000", "p 7 1"}, []impl.Entry{entryOf(impl.DiSow, 12, 1000)}},
		"one cell with fewer":    {[]string{"3 h 0", "t 2 0", "p 7 1"}, []impl.Entry{entryOf(impl.DiEat, 2, 1000)}},
		"one cell with one more": {[]string{"4 h 1000", "t 2 0", "p 7 1"}, []impl.Entry{entryOf(impl.DiSow, 0, 1)}},
		"one cell with one less": {[]string{"3 h 1000", "t 2 0", "p 7 0"}, []impl.Entry{entryOf(impl.DiEat, 22, 1)}},
		"all soil cells": {[]string{"5 h 1", "t 0 9", "p 8 0"}, []impl.Entry{
			entryOf(impl.DiSow, 0, 2), entryOf(impl.DiEat, 2, 999), entryOf(impl.DiEat, 11, 2), entryOf(impl.DiSow, 12, 9), entryOf(impl.DiSow, 21, 1), entryOf(impl.DiEat, 22, 1),
		}},
	} {
		diary, code := impl.DiaryOf(f, fieldOf(t, c.rows...))
		wantCode(t, name, code, impl.OK)
		wantEntries(t, name, diary, c.diary...)
	}
	bare, _ := impl.PlainField(10, 10, 0)
	full, _ := impl.PlainField(10, 10, 1000)
	for what, fields := range map[int8][2]impl.Field{impl.DiSow: {bare, full}, impl.DiEat: {full, bare}} {
		var wanted []impl.Entry
		for n := range int16(100) {
			wanted = append(wanted, entryOf(what, n, 1000))
		}
		diary, code := impl.DiaryOf(fields[0], fields[1])
		wantCode(t, "all of 100 cells", code, impl.OK)
		wantEntries(t, "all of 100 cells", diary, wanted...)
	}
}

func TestErrorsOfDiaryOf(t *testing.T) {
	f := diaryField(t)
	for name, rows := range map[string][]string{
		"narrower":                 {"3 h", "t 2", "p 7"},
		"wider":                    {"3 h 1000 0", "t 2 0 0", "p 7 1 0"},
		"lower":                    {"3 h 1000", "t 2 0"},
		"higher":                   {"3 h 1000", "t 2 0", "p 7 1", "0 0 0"},
		"a path instead of hedge":  {"3 p 1000", "t 2 0", "p 7 1"},
		"soil instead of a tree":   {"3 h 1000", "0 2 0", "p 7 1"},
		"a tree instead of soil":   {"3 h 1000", "t 2 t", "p 7 1"},
		"the last cell is a hedge": {"3 h 1000", "t 2 0", "p 7 h"},
		"another kind and seeds":   {"1 h 1", "h 1 1", "p 1 1"},
	} {
		other := fieldOf(t, rows...)
		for _, fields := range [][2]impl.Field{{f, other}, {other, f}} {
			diary, code := impl.DiaryOf(fields[0], fields[1])
			wantCode(t, name, code, impl.ErrState)
			wantEntries(t, name, diary)
		}
	}
	for name, broken := range brokenFields() {
		for _, fields := range [][2]impl.Field{{f, broken}, {broken, f}, {broken, broken}, {broken, impl.Field{}}, {plainField(t, 3, 2), broken}} {
			diary, code := impl.DiaryOf(fields[0], fields[1])
			wantCode(t, name, code, impl.ErrInvalid)
			wantEntries(t, name, diary)
		}
	}
}
