package tests

import (
	"regexp"
	"strings"
	"testing"

	"loop.example/g01338/impl"
)

func TestFlocksText(t *testing.T) {
	least := impl.Flock{}
	most := impl.Flock{Tree: 99, Birds: 200, Eats: 20, Bold: 1000, Reach: 200, Taste: 2}
	other := impl.Flock{Tree: 1, Birds: 2, Eats: 3, Bold: 4, Reach: 5, Taste: 1}
	want(t, "no flocks", impl.FlocksText(nil), "")
	want(t, "no flocks, an empty list", impl.FlocksText([]impl.Flock{}), "")
	want(t, "the least numbers", impl.FlocksText([]impl.Flock{least}), "0/0/0/0/0/0")
	want(t, "the greatest numbers", impl.FlocksText([]impl.Flock{most}), "99/200/20/1000/200/2")
	want(t, "in order", impl.FlocksText([]impl.Flock{other, most, least}), "1/2/3/4/5/1 99/200/20/1000/200/2 0/0/0/0/0/0")
	full := strings.TrimSuffix(strings.Repeat("99/200/20/1000/200/2 ", 12), " ")
	want(t, "MaxFlocks", impl.FlocksText(flocksOf(most, 12)), full)
	want(t, "more than MaxFlocks", impl.FlocksText(flocksOf(most, 13)), "")
	want(t, "a million", impl.FlocksText(make([]impl.Flock, 1000000)), "")
}

func TestTextsOfFlocksThatAreNone(t *testing.T) {
	good := goodFlock()
	for name, b := range brokenFlocks() {
		if b.Tree >= 0 && b.Tree <= 99 && b.Tree != good.Tree {
			want(t, name, impl.FlocksText([]impl.Flock{b}) != "", true)
			continue
		}
		want(t, name, impl.FlocksText([]impl.Flock{b}), "")
		want(t, name+", first", impl.FlocksText([]impl.Flock{b, good}), "")
		want(t, name+", last", impl.FlocksText([]impl.Flock{good, b}), "")
	}
}

func TestFlocksAreReadFromTheirTexts(t *testing.T) {
	for _, w := range someWorlds() {
		list, code := impl.ReadFlocks(impl.FlocksText(w.list))
		wantCode(t, "ReadFlocks", code, impl.OK)
		want(t, "ReadFlocks", impl.SameFlocks(list, w.list), true)
	}
	list, code := impl.ReadFlocks("")
	wantCode(t, "the empty text", code, impl.OK)
	want(t, "the empty text", len(list), 0)
	list, code = impl.ReadFlocks("1/2/3/4/5/1 99/200/20/1000/200/2 0/0/0/0/0/0")
	wantCode(t, "ReadFlocks", code, impl.OK)
	want(t, "ReadFlocks", list, []impl.Flock{
		{Tree: 1, Birds: 2, Eats: 3, Bold: 4, Reach: 5, Taste: 1},
		{Tree: 99, Birds: 200, Eats: 20, Bold: 1000, Reach: 200, Taste: 2},
		{},
	})
	full := strings.TrimSuffix(strings.Repeat("99/200/20/1000/200/2 ", 12), " ")
	list, code = impl.ReadFlocks(full)
	wantCode(t, "MaxFlocks", code, impl.OK)
	want(t, "MaxFlocks", len(list), 12)
}

func TestTextsOfNoFlocks(t *testing.T) {
	const good = "10/2/3/5/200/0"
	texts := []string{
		" ", "\n", "/", "x", "0", "/////", "0/0/0/0/0/", "/0/0/0/0/0", "0//0/0/0/0", "10/2/3/5/200", "10/2/3/5/200/0/0",
		"100/2/3/5/200/0", "10/201/3/5/200/0", "10/2/21/5/200/0", "10/2/3/1001/200/0", "10/2/3/5/201/0", "10/2/3/5/200/3",
		"-1/2/3/5/200/0", "10/-2/3/5/200/0", "10/2/-3/5/200/0", "10/2/3/-5/200/0", "10/2/3/5/-1/0", "10/2/3/5/200/-1",
		"-0/2/3/5/200/0", "10/2/3/5/200/-0", "+10/2/3/5/200/0", "10/2/3/5/200/+0", "010/2/3/5/200/0", "10/02/3/5/200/0", "10/2/3/5/200/00",
		"65546/2/3/5/200/0", "10/65538/3/5/200/0", "10/2/3/5/200/256", "10/2/3/5/200/65536", "10/2/3/5/200/18446744073709551616",
		"0x1/2/3/5/200/0", "1_0/2/3/5/200/0", "1e1/2/3/5/200/0", "10/2/3/5/200/0.0", "10/2/3/5/200/٠", "10/2/3/5/200/a",
		good + " ", " " + good, good + "  " + good, good + "\n", good + "\n" + good, good + "\t" + good, good + "/" + good,
		good + "," + good, good + " x", good + " 10/2/3/5/200", good + "\x00", "10 2 3 5 200 0",
		strings.TrimSuffix(strings.Repeat(good+" ", 13), " "), strings.TrimSuffix(strings.Repeat(good+" ", 60000), " "),
		strings.Repeat(" ", 1000000), strings.Repeat("/", 1000000), strings.Repeat("1", 1000000), strings.Repeat("0/", 500000),
	}
	for _, text := range texts {
		list, code := impl.ReadFlocks(text)
		if code != impl.ErrSyntax || len(list) > 0 {
			t.Errorf("%.40q: code %d and %d flocks, want %d and none", text, code, len(list), impl.ErrSyntax)
		}
	}
}

var wordOfFlock = regexp.MustCompile(`^([0-9]|[1-9][0-9])/([0-9]|[1-9][0-9]|1[0-9][0-9]|200)/([0-9]|1[0-9]|20)/([0-9]|[1-9][0-9]|[1-9][0-9][0-9]|1000)/([0-9]|[1-9][0-9]|1[0-9][0-9]|200)/[012]$`)

// areFlocks tells, without the package, whether a text is that of flocks.
func areFlocks(text string) bool {
	if text == "" {
		return true
	}
	words := strings.Split(text, " ")
	for _, word := range words {
		if !wordOfFlock.MatchString(word) {
			return false
		}
	}
	return len(words) <= 12
}

// Each byte of some texts is left away, put twice, or replaced.
func TestTextsThatAreNearlyFlocks(t *testing.T) {
	full := strings.TrimSuffix(strings.Repeat("99/200/20/1000/200/2 ", 12), " ")
	for _, text := range []string{"0/0/0/0/0/0", "10/2/3/5/200/0", "9/199/19/999/20/1 11/0/9/100/0/2", full} {
		for i := range text {
			checkFlocksReading(t, text[:i]+text[i+1:])
			checkFlocksReading(t, text[:i]+text[i:i+1]+text[i:])
			for _, other := range "0123459 /\n-+x\x00" {
				checkFlocksReading(t, text[:i]+string(other)+text[i+1:])
				checkFlocksReading(t, text[:i]+string(other)+text[i:])
			}
		}
	}
}

func checkFlocksReading(t *testing.T, text string) {
	t.Helper()
	list, code := impl.ReadFlocks(text)
	if !areFlocks(text) {
		if code != impl.ErrSyntax || len(list) > 0 {
			t.Errorf("%q: code %d and %v, want %d and no flocks", text, code, list, impl.ErrSyntax)
		}
		return
	}
	if code != impl.OK || impl.FlocksText(list) != text {
		t.Errorf("%q: code %d, and the flocks have the text %q", text, code, impl.FlocksText(list))
	}
}
