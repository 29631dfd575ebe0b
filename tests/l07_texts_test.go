package tests

import (
	"regexp"
	"slices"
	"strconv"
	"strings"
	"testing"

	"loop.example/g01338/impl"
)

func TestDiaryText(t *testing.T) {
	want(t, "no entries", impl.DiaryText(nil), "")
	want(t, "an empty list", impl.DiaryText([]impl.Entry{}), "")
	want(t, "a diary", impl.DiaryText(goodDiary()), "sow 12 10\neat 2 999\ntake 12 4\nfall 0 3\nsow 0 1\neat 12 6\n")
	want(t, "limits", impl.DiaryText([]impl.Entry{entryOf(impl.DiFall, 99, 1000), entryOf(impl.DiTake, 0, 1)}), "fall 99 1000\ntake 0 1\n")
	want(t, "MaxDiary", impl.DiaryText(slices.Repeat([]impl.Entry{entryOf(impl.DiFall, 99, 1000)}, 100)), strings.Repeat("fall 99 1000\n", 100))
	want(t, "one more than MaxDiary", impl.DiaryText(slices.Repeat([]impl.Entry{entryOf(impl.DiFall, 99, 1000)}, 101)), "")
	want(t, "very many", impl.DiaryText(make([]impl.Entry, 300000)), "")
	for name, e := range entriesWithoutText() {
		want(t, name, impl.DiaryText([]impl.Entry{e}), "")
		want(t, name+" first", impl.DiaryText(append([]impl.Entry{e}, goodDiary()...)), "")
		want(t, name+" last", impl.DiaryText(append(goodDiary(), e)), "")
	}
}

// entriesWithoutText are those that have no text, each for one reason.
func entriesWithoutText() map[string]impl.Entry {
	list := map[string]impl.Entry{"zero": {}}
	for _, n := range []int8{-1, 4, 5, 127, -128} {
		list["What "+strconv.Itoa(int(n))] = entryOf(n, 0, 1)
	}
	for _, n := range []int16{-1, 100, 101, 256, -256, 32767, -32768} {
		list["the cell "+strconv.Itoa(int(n))] = entryOf(impl.DiEat, n, 1)
	}
	for _, n := range []int16{-1, 0, 1001, 1002, 32767, -32768} {
		list["the amount "+strconv.Itoa(int(n))] = entryOf(impl.DiFall, 0, n)
	}
	return list
}

func TestDiariesAreReadFromTheirTexts(t *testing.T) {
	list, code := impl.ReadDiary("")
	wantCode(t, "the empty text", code, impl.OK)
	wantEntries(t, "the empty text", list)
	list, code = impl.ReadDiary("sow 12 10\neat 2 999\ntake 12 4\nfall 0 3\nsow 0 1\neat 12 6\n")
	wantCode(t, "a diary", code, impl.OK)
	wantEntries(t, "a diary", list, goodDiary()...)
	for what, word := range []string{"sow", "eat", "take", "fall"} {
		for cell := range int16(100) {
			for _, amount := range []int16{1, 2, 9, 10, 99, 100, 101, 999, 1000} {
				text := word + " " + strconv.Itoa(int(cell)) + " " + strconv.Itoa(int(amount)) + "\n"
				want(t, "DiaryText", impl.DiaryText([]impl.Entry{entryOf(int8(what), cell, amount)}), text)
				list, code := impl.ReadDiary(text)
				wantCode(t, text, code, impl.OK)
				wantEntries(t, text, list, entryOf(int8(what), cell, amount))
			}
		}
	}
	for _, s := range someDiaries() {
		if slices.ContainsFunc(s.diary, func(e impl.Entry) bool { return !hasWords(e) }) {
			want(t, "DiaryText", impl.DiaryText(s.diary), "")
			continue
		}
		list, code := impl.ReadDiary(impl.DiaryText(s.diary))
		wantCode(t, "ReadDiary", code, impl.OK)
		wantEntries(t, "ReadDiary", list, s.diary...)
	}
}

// hasWords tells, without the package, whether an entry has a text.
func hasWords(e impl.Entry) bool {
	return e.What >= 0 && e.What <= 3 && e.Cell >= 0 && e.Cell <= 99 && e.Amount >= 1 && e.Amount <= 1000
}

func TestTextsOfNoDiary(t *testing.T) {
	texts := []string{
		"\n", " ", "x", "\n\n", "sow", "sow\n", "sow 1\n", "sow 1 2", "sow 1 2 \n", " sow 1 2\n", "sow  1 2\n", "sow 1  2\n", "sow\t1\t2\n", "sow 1 2\r\n", "sow 1 2\n\n", "\nsow 1 2\n", "sow 1 2\n ", "sow 1 2\nx",
		"sow 1 2 3\n", "sow 1 2\neat 1 2", "sow 1 2 eat 1 2\n", "sow 1 2,eat 1 2\n", "sow 1 2\n\neat 1 2\n", "sow 1\n2\n", "sow\n1 2\n", "1 2\n", "1 2 sow\n", "sow sow sow\n",
		"Sow 1 2\n", "SOW 1 2\n", "sows 1 2\n", "so 1 2\n", "eats 1 2\n", "ate 1 2\n", "take1 2\n", "taken 1 2\n", "fell 1 2\n", "falls 1 2\n", "0 1 2\n", "3 1 2\n", "reap 1 2\n", " 1 2\n", "sow1 2\n", "soweat 1 2\n",
		"sow 01 2\n", "sow +1 2\n", "sow -0 2\n", "sow -1 2\n", "sow 100 2\n", "sow 256 2\n", "sow 65536 2\n", "sow 65537 2\n", "sow 4294967296 2\n", "sow 18446744073709551616 2\n", "sow 0x1 2\n", "sow 1.0 2\n", "sow 1_0 2\n", "sow h 2\n", "sow ٣ 2\n", "sow \x00 2\n", "sow  2\n",
		"eat 1 0\n", "eat 1 00\n", "eat 1 02\n", "eat 1 +2\n", "eat 1 -2\n", "eat 1 -0\n", "eat 1 1001\n", "eat 1 9999\n", "eat 1 32768\n", "eat 1 65536\n", "eat 1 65538\n", "eat 1 4294967298\n", "eat 1 18446744073709551618\n", "eat 1 1e2\n", "eat 1 0b1\n", "eat 1 h\n", "eat 1 \n",
		strings.Repeat("sow 1 2\n", 101), strings.Repeat("sow 1 2\n", 100) + "\n", strings.Repeat("sow 1 2\n", 99) + "sow 1 2", strings.Repeat("sow 1 2\n", 120000), strings.Repeat("\n", 1000000), strings.Repeat(" ", 1000000), strings.Repeat("1", 1000000), strings.Repeat("sow ", 250000),
	}
	for _, text := range texts {
		list, code := impl.ReadDiary(text)
		if code != impl.ErrSyntax || len(list) > 0 {
			t.Errorf("%.40q: code %d, want %d and no entries", text, code, impl.ErrSyntax)
		}
	}
}

var lineOfDiary = regexp.MustCompile(`^(sow|eat|take|fall) (0|[1-9][0-9]?) ([1-9][0-9]{0,2}|1000)$`)

// isDiaryText tells, without the package, whether a text is that of a diary.
func isDiaryText(text string) bool {
	lines := strings.Split(text, "\n")
	last := len(lines) - 1
	return last <= 100 && lines[last] == "" && !slices.ContainsFunc(lines[:last], func(line string) bool { return !lineOfDiary.MatchString(line) })
}

// Each byte of some texts is left away, put twice, or replaced.
func TestTextsThatAreNearlyDiaries(t *testing.T) {
	full := strings.Repeat("take 99 1000\nfall 0 1\n", 50)
	for _, text := range []string{"sow 1 2\n", "eat 10 1000\nfall 99 9\n", "take 0 100\nsow 12 10\neat 5 55\n", full} {
		for i := range text {
			checkDiaryReading(t, text[:i]+text[i+1:])
			checkDiaryReading(t, text[:i]+text[i:i+1]+text[i:])
			for _, other := range "0129 \nsowektl-+\x00" {
				checkDiaryReading(t, text[:i]+string(other)+text[i+1:])
				checkDiaryReading(t, text[:i]+string(other)+text[i:])
			}
		}
	}
}

func checkDiaryReading(t *testing.T, text string) {
	t.Helper()
	list, code := impl.ReadDiary(text)
	if !isDiaryText(text) {
		if code != impl.ErrSyntax || len(list) > 0 {
			t.Errorf("%q: code %d, want %d and no entries", text, code, impl.ErrSyntax)
		}
		return
	}
	if code != impl.OK || impl.DiaryText(list) != text {
		t.Errorf("%q: code %d, and the diary has the text %q", text, code, impl.DiaryText(list))
	}
}
