package tests

import (
	"regexp"
	"slices"
	"strings"
	"testing"

	"loop.example/g01338/impl"
)

func TestNetsText(t *testing.T) {
	least, most := netAt(0, 0, 1, 1), netAt(9, 9, 10, 10)
	want(t, "no nets", impl.NetsText(nil), "")
	want(t, "no nets, an empty list", impl.NetsText([]impl.Net{}), "")
	want(t, "the least numbers", impl.NetsText([]impl.Net{least}), "0,0:1x1")
	want(t, "the greatest numbers", impl.NetsText([]impl.Net{most}), "9,9:10x10")
	want(t, "four different numbers", impl.NetsText([]impl.Net{netAt(1, 2, 3, 4)}), "1,2:3x4")
	want(t, "in order", impl.NetsText([]impl.Net{goodNet(), most, least}), "0,0:3x1 9,9:10x10 0,0:1x1")
	want(t, "equal ones", impl.NetsText([]impl.Net{goodNet(), goodNet()}), "0,0:3x1 0,0:3x1")
	full := strings.TrimSuffix(strings.Repeat("9,9:10x10 ", 20), " ")
	want(t, "MaxNets", impl.NetsText(slices.Repeat([]impl.Net{most}, 20)), full)
	want(t, "more than MaxNets", impl.NetsText(slices.Repeat([]impl.Net{most}, 21)), "")
	want(t, "a million", impl.NetsText(slices.Repeat([]impl.Net{most}, 1000000)), "")
	for _, n := range []int8{-128, -1, 0, 1, 5, 9, 10, 11, 127} {
		place, side := n >= 0 && n <= 9, n >= 1 && n <= 10
		for net, wanted := range map[impl.Net]bool{netAt(n, 1, 2, 3): place, netAt(1, n, 2, 3): place, netAt(1, 2, n, 3): side, netAt(1, 2, 3, n): side} {
			want(t, "a net alone", impl.NetsText([]impl.Net{net}) != "", wanted)
			want(t, "the first net", impl.NetsText([]impl.Net{net, most}) != "", wanted)
			want(t, "the last net", impl.NetsText([]impl.Net{most, net}) != "", wanted)
		}
	}
}

func TestNetsAreReadFromTheirTexts(t *testing.T) {
	for _, s := range someNetScenes() {
		nets, code := impl.ReadNets(impl.NetsText(s.nets))
		wantCode(t, "ReadNets", code, impl.OK)
		wantNets(t, "ReadNets", nets, s.nets...)
	}
	for _, net := range allNetsOn(plainField(t, 10, 10)) {
		nets, code := impl.ReadNets(impl.NetsText([]impl.Net{net}))
		wantCode(t, "ReadNets of one", code, impl.OK)
		wantNets(t, "ReadNets of one", nets, net)
	}
	nets, code := impl.ReadNets("")
	wantCode(t, "the empty text", code, impl.OK)
	wantNets(t, "the empty text", nets)
	nets, code = impl.ReadNets("1,2:3x4 9,9:10x10 0,0:1x1 1,2:3x4")
	wantCode(t, "ReadNets", code, impl.OK)
	wantNets(t, "ReadNets", nets, netAt(1, 2, 3, 4), netAt(9, 9, 10, 10), netAt(0, 0, 1, 1), netAt(1, 2, 3, 4))
	nets, code = impl.ReadNets(strings.TrimSuffix(strings.Repeat("9,9:10x10 ", 20), " "))
	wantCode(t, "MaxNets", code, impl.OK)
	want(t, "MaxNets", len(nets), 20)
}

func TestTextsOfNoNets(t *testing.T) {
	const good = "1,2:3x4"
	texts := []string{
		" ", "\n", "x", ":", ",", ",:x", "1", "1,2", "1,2:", "1,2:3", "1,2:3x", "1,2:x4", "1,:3x4", ",2:3x4", ":3x4", "3x4", "1,2x3:4", "1:2,3x4", "1x2:3,4",
		"1,2,3x4", "1:2:3:4", "1 2 3 4", "1,2:3,4", "1,2:3X4", "1,2:3*4", "1,2:3x4x", "1,2:3x4x5", "1,2:3x4,", "1,2::3x4", "1,,2:3x4", "1,2:3xx4", "1,2:3x4:5", "1, 2:3x4", "1.2:3x4",
		"10,2:3x4", "1,10:3x4", "1,2:0x4", "1,2:3x0", "1,2:11x4", "1,2:3x11", "-1,2:3x4", "1,-1:3x4", "1,2:-3x4", "1,2:3x-4", "-0,2:3x4", "1,-0:3x4", "+1,2:3x4", "1,2:+3x4", "1,2:3x+4",
		"01,2:3x4", "1,02:3x4", "1,2:03x4", "1,2:3x04", "00,2:3x4", "257,2:3x4", "1,258:3x4", "1,2:259x4", "1,2:3x260", "65537,2:3x4", "1,2:3x65540", "1,2:3x18446744073709551620",
		"0x1,2:3x4", "1,2:1_0x4", "1,2:1e0x4", "1,2:3x4.0", "1,2:3x٤", "1,2:3xa",
		good + " ", " " + good, good + "  " + good, good + "\n", good + "\n" + good, good + "\t" + good, good + "," + good, good + " x", good + " 1,2:3", good + "\x00",
		strings.TrimSuffix(strings.Repeat(good+" ", 21), " "), strings.TrimSuffix(strings.Repeat(good+" ", 120000), " "),
		strings.Repeat(" ", 1000000), strings.Repeat(":", 1000000), strings.Repeat(",", 1000000), strings.Repeat("x", 1000000), strings.Repeat("1", 1000000), strings.Repeat("1,", 500000),
	}
	for _, text := range texts {
		nets, code := impl.ReadNets(text)
		if code != impl.ErrSyntax || len(nets) > 0 {
			t.Errorf("%.40q: code %d and %d nets, want %d and none", text, code, len(nets), impl.ErrSyntax)
		}
	}
}

var wordOfNet = regexp.MustCompile(`^[0-9],[0-9]:([1-9]|10)x([1-9]|10)$`)

// areNets tells, without the package, whether a text is that of nets.
func areNets(text string) bool {
	if text == "" {
		return true
	}
	words := strings.Split(text, " ")
	for _, word := range words {
		if !wordOfNet.MatchString(word) {
			return false
		}
	}
	return len(words) <= 20
}

// Each byte of some texts is left away, put twice, or replaced.
func TestTextsThatAreNearlyNets(t *testing.T) {
	full := strings.TrimSuffix(strings.Repeat("9,9:10x10 ", 20), " ")
	for _, text := range []string{"0,0:1x1", "1,2:3x4", "9,0:10x1 0,9:1x10 5,6:7x8", full} {
		for i := range text {
			checkNetsReading(t, text[:i]+text[i+1:])
			checkNetsReading(t, text[:i]+text[i:i+1]+text[i:])
			for _, other := range "0123459 ,:x/\n-+X\x00" {
				checkNetsReading(t, text[:i]+string(other)+text[i+1:])
				checkNetsReading(t, text[:i]+string(other)+text[i:])
			}
		}
	}
}

func checkNetsReading(t *testing.T, text string) {
	t.Helper()
	nets, code := impl.ReadNets(text)
	if !areNets(text) {
		if code != impl.ErrSyntax || len(nets) > 0 {
			t.Errorf("%q: code %d and %v, want %d and no nets", text, code, nets, impl.ErrSyntax)
		}
		return
	}
	if code != impl.OK || impl.NetsText(nets) != text {
		t.Errorf("%q: code %d, and the nets have the text %q", text, code, impl.NetsText(nets))
	}
}
