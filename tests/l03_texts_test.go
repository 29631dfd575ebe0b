package tests

import (
	"regexp"
	"slices"
	"strings"
	"testing"

	"loop.example/g01338/impl"
)

func TestScaresText(t *testing.T) {
	least := impl.Scarecrow{Power: 1}
	most := impl.Scarecrow{Cell: 99, Power: 1000, Age: 30}
	want(t, "no scarecrows", impl.ScaresText(nil), "")
	want(t, "no scarecrows, an empty list", impl.ScaresText([]impl.Scarecrow{}), "")
	want(t, "the least numbers", impl.ScaresText([]impl.Scarecrow{least}), "0:1/0")
	want(t, "the greatest numbers", impl.ScaresText([]impl.Scarecrow{most}), "99:1000/30")
	want(t, "in order", impl.ScaresText([]impl.Scarecrow{goodScare(), most, least}), "1:20/4 99:1000/30 0:1/0")
	want(t, "two in a cell", impl.ScaresText([]impl.Scarecrow{goodScare(), goodScare()}), "1:20/4 1:20/4")
	full := strings.TrimSuffix(strings.Repeat("99:1000/30 ", 20), " ")
	want(t, "MaxScares", impl.ScaresText(slices.Repeat([]impl.Scarecrow{most}, 20)), full)
	want(t, "more than MaxScares", impl.ScaresText(slices.Repeat([]impl.Scarecrow{most}, 21)), "")
	want(t, "a million", impl.ScaresText(slices.Repeat([]impl.Scarecrow{most}, 1000000)), "")
	for name, s := range brokenScares() {
		// Cells that only a field has not, or has a tree in, can be told.
		if s.Cell >= 0 && s.Cell <= 99 && s.Cell != 1 {
			want(t, name, impl.ScaresText([]impl.Scarecrow{s}) != "", true)
			continue
		}
		want(t, name, impl.ScaresText([]impl.Scarecrow{s}), "")
		want(t, name+", first", impl.ScaresText([]impl.Scarecrow{s, most}), "")
		want(t, name+", last", impl.ScaresText([]impl.Scarecrow{most, s}), "")
	}
}

func TestScaresAreReadFromTheirTexts(t *testing.T) {
	for _, s := range someScenes() {
		list, code := impl.ReadScares(impl.ScaresText(s.list))
		wantCode(t, "ReadScares", code, impl.OK)
		want(t, "ReadScares", impl.SameScares(list, s.list), true)
	}
	list, code := impl.ReadScares("")
	wantCode(t, "the empty text", code, impl.OK)
	want(t, "the empty text", len(list), 0)
	list, code = impl.ReadScares("1:20/4 99:1000/30 0:1/0 1:20/4")
	wantCode(t, "ReadScares", code, impl.OK)
	want(t, "ReadScares", list, []impl.Scarecrow{goodScare(), {Cell: 99, Power: 1000, Age: 30}, {Power: 1}, goodScare()})
	list, code = impl.ReadScares(strings.TrimSuffix(strings.Repeat("99:1000/30 ", 20), " "))
	wantCode(t, "MaxScares", code, impl.OK)
	want(t, "MaxScares", len(list), 20)
}

func TestTextsOfNoScares(t *testing.T) {
	const good = "1:20/4"
	texts := []string{
		" ", "\n", "x", ":", "/", ":/", "1", "1:20", "1/20", "20/4", "1:20/", "1:/4", ":20/4", "1:20/4/", "1:20/4/0", "1::20/4", "1:20//4", "1:2:0/4",
		"1/20:4", "1:20:4", "1/20/4", "1 20 4", "1,20/4", "100:20/4", "1:0/4", "1:1001/4", "1:20/31", "-1:20/4", "1:-20/4", "1:20/-1",
		"-0:20/4", "1:20/-0", "+1:20/4", "1:+20/4", "1:20/+4", "01:20/4", "1:020/4", "1:20/04", "1:20/00",
		"65537:20/4", "1:65556/4", "1:20/260", "1:20/256", "1:20/65540", "1:20/18446744073709551620", "0x1:20/4", "1:2_0/4", "1:2e1/4", "1:20/4.0", "1:20/٤", "1:20/a",
		good + " ", " " + good, good + "  " + good, good + "\n", good + "\n" + good, good + "\t" + good, good + "," + good, good + " x", good + " 1:20", good + "\x00",
		strings.TrimSuffix(strings.Repeat(good+" ", 21), " "), strings.TrimSuffix(strings.Repeat(good+" ", 140000), " "),
		strings.Repeat(" ", 1000000), strings.Repeat(":", 1000000), strings.Repeat("/", 1000000), strings.Repeat("1", 1000000), strings.Repeat("1:", 500000),
	}
	for _, text := range texts {
		list, code := impl.ReadScares(text)
		if code != impl.ErrSyntax || len(list) > 0 {
			t.Errorf("%.40q: code %d and %d scarecrows, want %d and none", text, code, len(list), impl.ErrSyntax)
		}
	}
}

var wordOfScare = regexp.MustCompile(`^([0-9]|[1-9][0-9]):([1-9]|[1-9][0-9]|[1-9][0-9][0-9]|1000)/([0-9]|[12][0-9]|30)$`)

// areScares tells, without the package, whether a text is that of scarecrows.
func areScares(text string) bool {
	if text == "" {
		return true
	}
	words := strings.Split(text, " ")
	for _, word := range words {
		if !wordOfScare.MatchString(word) {
			return false
		}
	}
	return len(words) <= 20
}

// Each byte of some texts is left away, put twice, or replaced.
func TestTextsThatAreNearlyScares(t *testing.T) {
	full := strings.TrimSuffix(strings.Repeat("99:1000/30 ", 20), " ")
	for _, text := range []string{"0:1/0", "1:20/4", "9:999/29 11:100/3 90:10/19", full} {
		for i := range text {
			checkScaresReading(t, text[:i]+text[i+1:])
			checkScaresReading(t, text[:i]+text[i:i+1]+text[i:])
			for _, other := range "0123459 /:\n-+x\x00" {
				checkScaresReading(t, text[:i]+string(other)+text[i+1:])
				checkScaresReading(t, text[:i]+string(other)+text[i:])
			}
		}
	}
}

func checkScaresReading(t *testing.T, text string) {
	t.Helper()
	list, code := impl.ReadScares(text)
	if !areScares(text) {
		if code != impl.ErrSyntax || len(list) > 0 {
			t.Errorf("%q: code %d and %v, want %d and no scarecrows", text, code, list, impl.ErrSyntax)
		}
		return
	}
	if code != impl.OK || impl.ScaresText(list) != text {
		t.Errorf("%q: code %d, and the scarecrows have the text %q", text, code, impl.ScaresText(list))
	}
}
