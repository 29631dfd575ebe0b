package tests

import (
	"regexp"
	"slices"
	"strings"
	"testing"

	"loop.example/g01338/impl"
)

func TestBeatText(t *testing.T) {
	want(t, "no cells", impl.BeatText(nil), "")
	want(t, "no cells, an empty list", impl.BeatText(impl.Beat{}), "")
	want(t, "one cell", impl.BeatText(impl.Beat{0}), "0")
	want(t, "the greatest number", impl.BeatText(impl.Beat{99}), "99")
	want(t, "in order", impl.BeatText(impl.Beat{7, 10, 0, 99, 10}), "7 10 0 99 10")
	want(t, "a beat", impl.BeatText(goodBeat()), "1 2 3 13 23 22 21 11")
	full := slices.Repeat(impl.Beat{99}, 40)
	want(t, "MaxBeat", impl.BeatText(full), strings.TrimSuffix(strings.Repeat("99 ", 40), " "))
	want(t, "more than MaxBeat", impl.BeatText(append(full, 99)), "")
	want(t, "very many", impl.BeatText(make(impl.Beat, 1000000)), "")
	for _, n := range []int16{-32768, -256, -100, -1, 0, 1, 9, 10, 98, 99, 100, 101, 127, 128, 255, 256, 300, 32767} {
		isNumber := n >= 0 && n <= 99
		want(t, "a cell alone", impl.BeatText(impl.Beat{n}) != "", isNumber)
		want(t, "the first cell", impl.BeatText(impl.Beat{n, 1}) != "", isNumber)
		want(t, "the last cell", impl.BeatText(impl.Beat{1, 2, n}) != "", isNumber)
		want(t, "the last one of MaxBeat", impl.BeatText(append(slices.Clone(full[:39]), n)) != "", isNumber)
	}
}

func TestBeatsAreReadFromTheirTexts(t *testing.T) {
	for _, s := range someBeatScenes() {
		b, code := impl.ReadBeat(impl.BeatText(s.b))
		wantCode(t, "ReadBeat", code, impl.OK)
		wantBeat(t, "ReadBeat", b, s.b...)
	}
	for n := range int16(100) {
		b, code := impl.ReadBeat(impl.BeatText(impl.Beat{n}))
		wantCode(t, "ReadBeat of one cell", code, impl.OK)
		wantBeat(t, "ReadBeat of one cell", b, n)
	}
	b, code := impl.ReadBeat("7 10 0 99 10")
	wantCode(t, "cells that are not beside each other", code, impl.OK)
	wantBeat(t, "cells that are not beside each other", b, 7, 10, 0, 99, 10)
	b, code = impl.ReadBeat(strings.TrimSuffix(strings.Repeat("99 ", 40), " "))
	wantCode(t, "MaxBeat", code, impl.OK)
	wantBeat(t, "MaxBeat", b, slices.Repeat(impl.Beat{99}, 40)...)
}

func TestTextsOfNoBeats(t *testing.T) {
	const good = "0 1 2 1"
	texts := []string{
		"", " ", "\n", "x", "-", "0x", "h", "-1", "-0", "+1", "00", "01", "007", "100", "101", "256", "257", "65536", "65537", "18446744073709551616",
		"1.0", "1e0", "0x1", "1_0", "٤", "1,2", "1/2", "1:2", "1;2", "1-2", "1\t2", "1\n2", "1  2", "1 2 ", " 1 2", "1 2\n", "\n1 2", "1 2\x00", "1 2\r", "1 2\u00a03",
		"1 x", "x 1", "1 -1", "1 +2", "1 02", "01 2", "1 100", "100 1", "1 2 100", "1 2 257", "1 2 a", "1 2 3.", "1 2 .3", "1 ", " 1", "\"1 2\"", "[1 2]",
		good + " ", " " + good, good + "\n", good + "  " + good, good + "\n" + good, good + ",", good + " x", good + " 100",
		strings.TrimSuffix(strings.Repeat("1 ", 41), " "), strings.TrimSuffix(strings.Repeat("1 ", 42), " "), strings.Repeat("1 ", 40), strings.TrimSuffix(strings.Repeat("1 ", 500000), " "),
		strings.Repeat(" ", 1000000), strings.Repeat("1", 1000000), strings.Repeat("\n", 1000000),
	}
	for _, text := range texts {
		b, code := impl.ReadBeat(text)
		if code != impl.ErrSyntax || len(b) > 0 {
			t.Errorf("%.40q: code %d and %d cells, want %d and none", text, code, len(b), impl.ErrSyntax)
		}
	}
}

var textOfBeat = regexp.MustCompile(`^([0-9]|[1-9][0-9])( ([0-9]|[1-9][0-9])){0,39}\z`)

// Each byte of some texts is left away, put twice, or replaced.
func TestTextsThatAreNearlyBeats(t *testing.T) {
	full := strings.TrimSuffix(strings.Repeat("99 ", 40), " ")
	for _, text := range []string{"0", "99", "0 1 2 1", "10 20 30", full} {
		for i := range text {
			checkBeatReading(t, text[:i]+text[i+1:])
			checkBeatReading(t, text[:i]+text[i:i+1]+text[i:])
			for _, other := range "0123459 ,:x/\n-+X\x00" {
				checkBeatReading(t, text[:i]+string(other)+text[i+1:])
				checkBeatReading(t, text[:i]+string(other)+text[i:])
				checkBeatReading(t, text+string(other))
			}
		}
	}
}

func checkBeatReading(t *testing.T, text string) {
	t.Helper()
	b, code := impl.ReadBeat(text)
	if !textOfBeat.MatchString(text) {
		if code != impl.ErrSyntax || len(b) > 0 {
			t.Errorf("%q: code %d and %v, want %d and no beat", text, code, b, impl.ErrSyntax)
		}
		return
	}
	if code != impl.OK || impl.BeatText(b) != text {
		t.Errorf("%q: code %d, and the beat has the text %q", text, code, impl.BeatText(b))
	}
}
