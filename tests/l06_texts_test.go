package tests

import (
	"regexp"
	"strings"
	"testing"

	"loop.example/g01338/impl"
)

func TestOwnersText(t *testing.T) {
	want(t, "the example", impl.OwnersText(fieldOf(t, "3 5 2"), rowOwners(0, 1, 1)), "0 1 1\n\n3 5 2\n")
	want(t, "one cell", impl.OwnersText(fieldOf(t, "h"), rowOwners(9)), "9\n\nh\n")
	want(t, "one column", impl.OwnersText(fieldOf(t, "0", "t", "1000"), ownersAt(map[int]int8{0: 4, 10: 0, 20: 9})), "4\n0\n9\n\n0\nt\n1000\n")
	want(t, "all kinds", impl.OwnersText(lossBefore(t), goodOwners()), "0 0 1 9\n2 0 1 9\n2 0 3 3\n\n3 h 5 9\nt 2 0 p\n4 6 6 1000\n")
	full, _ := impl.PlainField(10, 10, 1000)
	table := strings.Repeat("9 9 9 9 9 9 9 9 9 9\n", 10)
	seeds := strings.Repeat(strings.TrimSuffix(strings.Repeat("1000 ", 10), " ")+"\n", 10)
	want(t, "the longest text", impl.OwnersText(full, ownersOf(full, func(int64) int64 { return 9 })), table+"\n"+seeds)
	for name, o := range brokenOwners() {
		want(t, name, impl.OwnersText(lossBefore(t), o), "")
	}
	for name, f := range brokenFields() {
		want(t, "a field with "+name, impl.OwnersText(f, ownersOf(impl.Field{Wide: 3, High: 2}, func(int64) int64 { return 0 })), "")
		want(t, "no owners, and a field with "+name, impl.OwnersText(f, ownersAt(nil)), "")
	}
}

func TestOwnersAreReadFromTheirTexts(t *testing.T) {
	for _, s := range someLossScenes() {
		text := impl.OwnersText(s.before, s.o)
		want(t, "OwnersText", text, ownersTextIn(s.before, s.o))
		f, o, code := impl.ReadOwners(text)
		wantCode(t, "ReadOwners", code, impl.OK)
		want(t, "the field", f, s.before)
		want(t, "the owners", o, s.o)
	}
	for _, text := range []string{"0\n\n0\n", "9\n\n1000\n", "5\n\nt\n", "0 1\n2 3\n\nh p\nt 7\n", "0 1 1\n\n3 5 2\n"} {
		f, o, code := impl.ReadOwners(text)
		wantCode(t, "ReadOwners", code, impl.OK)
		want(t, "it is valid", impl.ValidOwners(f, o), true)
		want(t, "OwnersText", impl.OwnersText(f, o), text)
	}
	f, o, code := impl.ReadOwners("7 0\n\nh 12\n")
	wantCode(t, "two cells", code, impl.OK)
	want(t, "two cells", f, fieldOf(t, "h 12"))
	want(t, "two cells", o, rowOwners(7, 0))
}

func TestTextsOfNoOwners(t *testing.T) {
	const good = "0 1\n2 3\n\n5 h\nt 0\n"
	texts := []string{
		"", "\n", "\n\n", "\n\n\n", " ", "x", "0", "0\n", "0\n\n", "0\n\n\n", "\n0\n", "\n\n0\n", "0\n0\n", "0\n\n0", "0\n\n0\n\n", "0\n\n\n0\n", "\n0\n\n0\n", "0\r\n\r\n0\r\n",
		"0 \n\n0\n", " 0\n\n0\n", "0\n \n0\n", "0\n\n 0\n", "0\n\n0 \n", "0\t1\n\n0 0\n", "0  1\n\n0 0\n",
		"0 1\n\n0\n", "0\n\n0 1\n", "0 1 2\n\n0 1\n", "0\n1\n\n0\n", "0\n\n0\n0\n", "0 1\n\n0\n0\n", "0\n0\n\n0 0\n", "0 1\n2\n\n0 0\n0 0\n", "0\n1 2\n\n0 0\n0 0\n", "0 1\n2 3\n\n0 0\n0\n",
		"10\n\n0\n", "-1\n\n0\n", "+1\n\n0\n", "-0\n\n0\n", "00\n\n0\n", "01\n\n0\n", "256\n\n0\n", "257\n\n0\n", "265\n\n0\n", "512\n\n0\n", "1000\n\n0\n", "1001\n\n0\n", "65536\n\n0\n", "18446744073709551616\n\n0\n",
		"h\n\n0\n", "h\n\nh\n", "t\n\nt\n", "p\n\n0\n", "0 h\n\n0 0\n", "x\n\n0\n", "0.0\n\n0\n", "0x1\n\n0\n", "1e0\n\n0\n", "٣\n\n0\n", "0,1\n\n0 0\n", "1_0\n\n0\n",
		"0\n\n-1\n", "0\n\n1001\n", "0\n\n01\n", "0\n\nx\n", "0\n\nH\n", "0\n\n+1\n", "0\n\n\x00\n", "0\x00\n\n0\n",
		good + "\n", "\n" + good, good + good, good + "0", good + " ", strings.TrimSuffix(good, "\n"), strings.Replace(good, "\n\n", "\n", 1), strings.Replace(good, "\n\n", "\n\n\n", 1), strings.Replace(good, "\n\n", "\n \n", 1),
		"5 h\nt 0\n\n0 1\n2 3\n", "3 5 2\n\n0 1 1\n\n", "0 1 1\n3 5 2\n", "0 1\n\n3 5 2\n",
		strings.TrimSuffix(strings.Repeat("0 ", 11), " ") + "\n\n" + strings.TrimSuffix(strings.Repeat("0 ", 11), " ") + "\n", strings.Repeat("0\n", 11) + "\n" + strings.Repeat("0\n", 11), strings.Repeat("0\n", 11) + "\n0\n",
		strings.Repeat("\n", 1000000), strings.Repeat(" ", 1000000), strings.Repeat("0", 1000000), strings.Repeat("0\n", 500000), strings.Repeat("0 ", 500000), strings.Repeat("0\n\n", 300000), "0\n\n" + strings.Repeat("0\n", 400000),
	}
	for _, text := range texts {
		f, o, code := impl.ReadOwners(text)
		if code != impl.ErrSyntax || f != (impl.Field{}) || o != (impl.Owners{}) {
			t.Errorf("%.40q: code %d, want %d, no field and no owners", text, code, impl.ErrSyntax)
		}
	}
}

var rowOfOwners = regexp.MustCompile(`^[0-9]( [0-9]){0,9}$`)

// isOwnersText tells, without the package, whether a text is that of a field and owners.
func isOwnersText(text string) bool {
	lines := strings.Split(text, "\n")
	high := 0
	for high < len(lines) && rowOfOwners.MatchString(lines[high]) {
		high++
	}
	if high == 0 || len(lines) != 2*high+2 || lines[high] != "" {
		return false
	}
	for _, row := range lines[:2*high+1] {
		if row != lines[high] && strings.Count(row, " ") != strings.Count(lines[0], " ") {
			return false
		}
	}
	return isFieldText(strings.Join(lines[high+1:], "\n"))
}

// Each byte of some texts is left away, put twice, or replaced.
func TestTextsThatAreNearlyOwners(t *testing.T) {
	full := strings.Repeat("9 8 7 6 5 4 3 2 1 0\n", 10) + "\n" + strings.Repeat("1000 h p t 1 2 3 4 5 6\n", 10)
	for _, text := range []string{"0\n\n0\n", "0 1 1\n\n3 5 2\n", "0 1\n2 3\n\n5 h\nt 0\n", "4\n5\n6\n\n7\n8\np\n", full} {
		for i := range text {
			checkOwnersReading(t, text[:i]+text[i+1:])
			checkOwnersReading(t, text[:i]+text[i:i+1]+text[i:])
			for _, other := range "0123459 \nhptx-+\x00" {
				checkOwnersReading(t, text[:i]+string(other)+text[i+1:])
				checkOwnersReading(t, text[:i]+string(other)+text[i:])
			}
		}
	}
}

func checkOwnersReading(t *testing.T, text string) {
	t.Helper()
	f, o, code := impl.ReadOwners(text)
	if !isOwnersText(text) {
		if code != impl.ErrSyntax || f != (impl.Field{}) || o != (impl.Owners{}) {
			t.Errorf("%q: code %d, want %d, no field and no owners", text, code, impl.ErrSyntax)
		}
		return
	}
	if code != impl.OK || impl.OwnersText(f, o) != text || !impl.ValidOwners(f, o) {
		t.Errorf("%q: code %d, and the owners have the text %q", text, code, impl.OwnersText(f, o))
	}
}
