package tests

import (
	"regexp"
	"strings"
	"testing"

	"loop.example/g01338/impl"
)

func TestMirrorField(t *testing.T) {
	f := fieldOf(t, "3 h 5", "t 2 0")
	mirror, code := impl.MirrorField(f)
	wantCode(t, "MirrorField", code, impl.OK)
	want(t, "MirrorField", impl.FieldText(mirror), "5 h 3\n0 2 t\n")
	for _, f := range someFields() {
		once, code := impl.MirrorField(f)
		wantCode(t, "MirrorField", code, impl.OK)
		wanted := impl.Field{Wide: f.Wide, High: f.High}
		for y := range int(f.High) {
			for x := range int(f.Wide) {
				from := int(f.Wide) - 1 - x + 10*y
				wanted.Kinds[x+10*y], wanted.Seeds[x+10*y] = f.Kinds[from], f.Seeds[from]
			}
		}
		want(t, "MirrorField", once, wanted)
		twice, code := impl.MirrorField(once)
		wantCode(t, "MirrorField", code, impl.OK)
		want(t, "a field that is mirrored twice", twice, f)
	}
}

func TestTurnField(t *testing.T) {
	for _, f := range someFields() {
		once, code := impl.TurnField(f)
		wantCode(t, "TurnField", code, impl.OK)
		wanted := impl.Field{Wide: f.High, High: f.Wide}
		for y := range int(f.Wide) {
			for x := range int(f.High) {
				from := y + 10*(int(f.High)-1-x)
				wanted.Kinds[x+10*y], wanted.Seeds[x+10*y] = f.Kinds[from], f.Seeds[from]
			}
		}
		want(t, "TurnField", once, wanted)
		turned := f
		for range 4 {
			turned, code = impl.TurnField(turned)
			wantCode(t, "TurnField", code, impl.OK)
		}
		want(t, "a field that is turned four times", turned, f)
	}
}

func TestFieldText(t *testing.T) {
	full, _ := impl.PlainField(10, 10, 1000)
	row := strings.TrimSuffix(strings.Repeat("1000 ", 10), " ") + "\n"
	want(t, "the longest text", impl.FieldText(full), strings.Repeat(row, 10))
	alone, _ := impl.PlainField(1, 1, 0)
	want(t, "the shortest text", impl.FieldText(alone), "0\n")
	want(t, "all kinds", impl.FieldText(impl.Field{Wide: 2, High: 2, Kinds: [100]uint8{0: impl.KiTree, 1: impl.KiPath, 11: impl.KiHedge}, Seeds: [100]int16{10: 12}}), "t p\n12 h\n")
	for name, f := range brokenFields() {
		want(t, name, impl.FieldText(f), "")
	}
}

func TestFieldsAreReadFromTheirTexts(t *testing.T) {
	for _, f := range someFields() {
		g, code := impl.ReadField(impl.FieldText(f))
		wantCode(t, "ReadField", code, impl.OK)
		want(t, "ReadField", g, f)
	}
	for _, text := range []string{"0\n", "1000\n", "h\n", "p\n", "t\n", "0 1\n1000 t\n"} {
		f, code := impl.ReadField(text)
		wantCode(t, "ReadField", code, impl.OK)
		want(t, "ReadField", impl.FieldText(f), text)
		want(t, "ReadField", impl.ValidField(f), true)
	}
}

func TestTextsOfNoField(t *testing.T) {
	wide := strings.TrimSuffix(strings.Repeat("0 ", 11), " ") + "\n"
	texts := []string{
		"", "\n", " ", "\n\n", "x", "0", "1 2", "0\n\n", "\n0\n", "0\n0", "0\n\n0\n", "0\r\n", "0\n\r", "0\x00\n",
		" 0\n", "0 \n", "0  1\n", "0\t1\n", "0 1\n0\n", "0\n0 1\n", "0 1\n0 1 2\n", "0 1\n\n",
		"00\n", "01\n", "+1\n", "-0\n", "-1\n", "1001\n", "9999\n", "32767\n", "32768\n", "65536\n", "65537\n", "4294967296\n",
		"18446744073709551616\n", "1_0\n", "0x1\n", "1.0\n", "1e1\n", "٣\n",
		"H\n", "P\n", "T\n", "s\n", "hh\n", "h0\n", "0h\n", "h1\n", "3 h 5\nt 2 0", "3 h 5\nt 2 0\n\n", "3 h 5\n t 2 0\n",
		wide, strings.Repeat("0\n", 11), strings.Repeat("0\n", 300), strings.Repeat("0 ", 300) + "0\n",
		strings.Repeat(wide, 11), strings.Repeat("\n", 1000000), strings.Repeat(" ", 1000000), strings.Repeat("1", 1000000),
	}
	for _, text := range texts {
		f, code := impl.ReadField(text)
		if code != impl.ErrSyntax || f != (impl.Field{}) {
			t.Errorf("%.40q: code %d, want %d and no field", text, code, impl.ErrSyntax)
		}
	}
}

var rowOfField = regexp.MustCompile(`^(h|p|t|0|[1-9][0-9]{0,2}|1000)( (h|p|t|0|[1-9][0-9]{0,2}|1000)){0,9}$`)

// isFieldText tells, without the package, whether a text is that of a field.
func isFieldText(text string) bool {
	rows := strings.Split(text, "\n")
	last := len(rows) - 1
	if last < 1 || last > 10 || rows[last] != "" {
		return false
	}
	for _, row := range rows[:last] {
		if !rowOfField.MatchString(row) || strings.Count(row, " ") != strings.Count(rows[0], " ") {
			return false
		}
	}
	return true
}

// Each byte of some texts is left away, put twice, or replaced.
func TestTextsThatAreNearlyRight(t *testing.T) {
	full := strings.Repeat("1000 h p t 1 2 3 4 5 6\n", 10)
	for _, text := range []string{"0\n", "3 h 5\nt 2 0\n", "10 p\n0 999\n1000 t\n", full} {
		for i := range text {
			checkReading(t, text[:i]+text[i+1:])
			checkReading(t, text[:i]+text[i:i+1]+text[i:])
			for _, other := range "0123459 \nhptsH-+\x00" {
				checkReading(t, text[:i]+string(other)+text[i+1:])
				checkReading(t, text[:i]+string(other)+text[i:])
			}
		}
	}
}

func checkReading(t *testing.T, text string) {
	t.Helper()
	f, code := impl.ReadField(text)
	if !isFieldText(text) {
		if code != impl.ErrSyntax || f != (impl.Field{}) {
			t.Errorf("%q: code %d, want %d and no field", text, code, impl.ErrSyntax)
		}
		return
	}
	if code != impl.OK || impl.FieldText(f) != text {
		t.Errorf("%q: code %d, and the field has the text %q", text, code, impl.FieldText(f))
	}
}
