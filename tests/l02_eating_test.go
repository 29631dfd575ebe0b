package tests

import (
	"testing"

	"loop.example/g01338/impl"
)

func TestEatOnce(t *testing.T) {
	f := fieldOf(t, "t 3 1000 h")
	cases := []struct {
		name        string
		birds, eats int16
		reach       int16
		code        int64
		visit       impl.Visit
		text        string
	}{
		{"some", 2, 3, 200, impl.OK, visited(0, 2, 6), "t 3 994 h\n"},
		{"all but one", 111, 9, 200, impl.OK, visited(0, 2, 999), "t 3 1 h\n"},
		{"all", 200, 5, 200, impl.OK, visited(0, 2, 1000), "t 3 0 h\n"},
		{"all, and hungry", 200, 20, 200, impl.OK, visited(0, 2, 1000), "t 3 0 h\n"},
		{"all that are near", 1, 4, 1, impl.OK, visited(0, 1, 3), "t 0 1000 h\n"},
		{"no birds", 0, 20, 200, impl.ErrState, impl.Visit{}, ""},
		{"birds that eat nothing", 200, 0, 200, impl.ErrState, impl.Visit{}, ""},
		{"no choice", 1, 1, 0, impl.ErrNotFound, impl.Visit{}, ""},
		{"ErrNotFound before ErrState", 0, 20, 0, impl.ErrNotFound, impl.Visit{}, ""},
		{"ErrNotFound before ErrState, eating nothing", 200, 0, 0, impl.ErrNotFound, impl.Visit{}, ""},
	}
	for _, c := range cases {
		left, visit, code := impl.EatOnce(f, impl.CalmFears(), impl.Flock{Birds: c.birds, Eats: c.eats, Reach: c.reach})
		wantCode(t, c.name, code, c.code)
		want(t, c.name, visit, c.visit)
		want(t, c.name, impl.FieldText(left), c.text)
		if code != impl.OK {
			want(t, c.name, left, impl.Field{})
		}
	}
}

func TestFeedFlock(t *testing.T) {
	cases := []struct {
		name        string
		row         string
		birds, eats int16
		taste       int8
		visits      [][2]int16
		text        string
		hungry      bool
	}{
		{"no birds", "t 5", 0, 20, impl.TaSeeds, nil, "t 5\n", false},
		{"birds that eat nothing", "t 5", 200, 0, impl.TaNear, nil, "t 5\n", false},
		{"no seeds", "t 0 h p", 1, 1, impl.TaCalm, nil, "t 0 h p\n", true},
		{"no seeds, and no hunger", "t 0 h p", 0, 1, impl.TaCalm, nil, "t 0 h p\n", false},
		{"enough in one cell", "t 6 5", 2, 3, impl.TaSeeds, [][2]int16{{1, 6}}, "t 0 5\n", false},
		{"one more than in one cell", "t 6 5", 1, 7, impl.TaSeeds, [][2]int16{{1, 6}, {2, 1}}, "t 0 4\n", false},
		{"all that there are", "t 1 2 3", 2, 3, impl.TaNear, [][2]int16{{1, 1}, {2, 2}, {3, 3}}, "t 0 0 0\n", false},
		{"less than wanted", "t 1 2 3", 1, 7, impl.TaNear, [][2]int16{{1, 1}, {2, 2}, {3, 3}}, "t 0 0 0\n", true},
		{"MaxVisits, and enough", "t 1 1 1 9", 3, 4, impl.TaNear, [][2]int16{{1, 1}, {2, 1}, {3, 1}, {4, 9}}, "t 0 0 0 0\n", false},
		{"MaxVisits, and still hungry", "t 1 1 1 1 1", 1, 20, impl.TaNear, [][2]int16{{1, 1}, {2, 1}, {3, 1}, {4, 1}}, "t 0 0 0 0 1\n", true},
		{"MaxVisits, and one seed is wanted", "t 1 1 1 1 9", 1, 5, impl.TaNear, [][2]int16{{1, 1}, {2, 1}, {3, 1}, {4, 1}}, "t 0 0 0 0 9\n", true},
		{"MaxVisits of MaxSeeds", "t 1000 1000 1000 1000 1000", 200, 20, impl.TaNear, [][2]int16{{1, 1000}, {2, 1000}, {3, 1000}, {4, 1000}}, "t 0 0 0 0 1000\n", false},
		{"the richest first, and then the next one", "t 3 9 4", 1, 15, impl.TaSeeds, [][2]int16{{2, 9}, {3, 4}, {1, 2}}, "t 1 0 0\n", false},
	}
	for _, c := range cases {
		f := fieldOf(t, c.row)
		b := impl.Flock{Birds: c.birds, Eats: c.eats, Reach: 200, Taste: c.taste}
		left, visits, code := impl.FeedFlock(f, impl.CalmFears(), b)
		wantCode(t, c.name, code, impl.OK)
		var wanted []impl.Visit
		for _, v := range c.visits {
			wanted = append(wanted, visited(0, v[0], v[1]))
		}
		wantVisits(t, c.name, visits, wanted...)
		want(t, c.name, impl.FieldText(left), c.text)
		hungry, code := impl.StillHungry(f, impl.CalmFears(), []impl.Flock{b})
		wantCode(t, c.name, code, impl.OK)
		want(t, c.name, len(hungry) == 1, c.hungry)
	}
}

// A calm flock goes on to the cells that it is more afraid of.
func TestFeedFlockByFear(t *testing.T) {
	f := fieldOf(t, "1 9 t 5 2")
	b := impl.Flock{Tree: 2, Birds: 1, Eats: 9, Bold: 5, Reach: 200, Taste: impl.TaCalm}
	left, visits, code := impl.FeedFlock(f, impl.Fears{0: 2, 1: 6, 3: 5, 4: 2}, b)
	wantCode(t, "FeedFlock", code, impl.OK)
	wantVisits(t, "FeedFlock", visits, visited(0, 4, 2), visited(0, 0, 1), visited(0, 3, 5))
	want(t, "FeedFlock", impl.FieldText(left), "0 9 t 0 0\n")
}

func TestTwoFlocksInOneTree(t *testing.T) {
	f := fieldOf(t, "t 5 4")
	few := impl.Flock{Birds: 1, Eats: 4, Reach: 200}
	many := impl.Flock{Birds: 2, Eats: 4, Reach: 200}
	left, visits, code := impl.FeedAll(f, impl.CalmFears(), []impl.Flock{few, many})
	wantCode(t, "few first", code, impl.OK)
	wantVisits(t, "few first", visits, visited(0, 1, 4), visited(1, 2, 4), visited(1, 1, 1))
	want(t, "few first", impl.FieldText(left), "t 0 0\n")
	left, visits, code = impl.FeedAll(f, impl.CalmFears(), []impl.Flock{many, few})
	wantCode(t, "many first", code, impl.OK)
	wantVisits(t, "many first", visits, visited(0, 1, 5), visited(0, 2, 3), visited(1, 2, 1))
	want(t, "many first", impl.FieldText(left), "t 0 0\n")
	for _, list := range [][]impl.Flock{{few, many}, {many, few}} {
		hungry, code := impl.StillHungry(f, impl.CalmFears(), list)
		wantCode(t, "StillHungry", code, impl.OK)
		wantList(t, "StillHungry", hungry, 1)
	}
}

func TestNoFlocks(t *testing.T) {
	f := birdField(t)
	left, visits, code := impl.FeedAll(f, impl.CalmFears(), nil)
	wantCode(t, "FeedAll", code, impl.OK)
	want(t, "FeedAll", left, f)
	wantVisits(t, "FeedAll", visits)
	left, days, code := impl.FeedDays(f, impl.CalmFears(), nil, 3)
	wantCode(t, "FeedDays", code, impl.OK)
	want(t, "FeedDays", left, f)
	wantList(t, "FeedDays", days, 0, 0, 0)
	eaten, code := impl.EatenBy(f, nil, nil)
	wantCode(t, "EatenBy", code, impl.OK)
	wantList(t, "EatenBy", eaten)
	hungry, code := impl.StillHungry(f, impl.CalmFears(), nil)
	wantCode(t, "StillHungry", code, impl.OK)
	wantList(t, "StillHungry", hungry)
	birds, code := impl.BirdsIn(f, nil)
	want(t, "BirdsIn", [2]int64{birds, code}, [2]int64{0, impl.OK})
}

func TestMaxFlocks(t *testing.T) {
	f := fieldOf(t, "t 100 5 5")
	list := flocksOf(impl.Flock{Birds: 3, Eats: 3, Reach: 200}, impl.MaxFlocks)
	left, visits, code := impl.FeedAll(f, impl.CalmFears(), list)
	wantCode(t, "FeedAll", code, impl.OK)
	want(t, "FeedAll", impl.FieldText(left), "t 1 0 1\n")
	want(t, "FeedAll, visits", len(visits), 13)
	wantVisits(t, "FeedAll, the last flock", visits[11:], visited(11, 2, 5), visited(11, 3, 4))
	eaten, code := impl.EatenBy(f, list, visits)
	wantCode(t, "EatenBy", code, impl.OK)
	wantList(t, "EatenBy", eaten, 9, 9, 9, 9, 9, 9, 9, 9, 9, 9, 9, 9)
	hungry, code := impl.StillHungry(left, impl.CalmFears(), list)
	wantCode(t, "StillHungry", code, impl.OK)
	wantList(t, "StillHungry", hungry, 0, 1, 2, 3, 4, 5, 6, 7, 8, 9, 10, 11)
}

func TestFeedDays(t *testing.T) {
	f := fieldOf(t, "t 20 3")
	list := []impl.Flock{{Birds: 1, Eats: 5, Reach: 200}, {Birds: 2, Eats: 1, Reach: 200, Taste: impl.TaNear}}
	left, days, code := impl.FeedDays(f, impl.CalmFears(), list, 5)
	wantCode(t, "FeedDays", code, impl.OK)
	wantList(t, "FeedDays", days, 7, 7, 7, 2, 0)
	want(t, "FeedDays", impl.FieldText(left), "t 0 0\n")
	left, days, code = impl.FeedDays(f, impl.CalmFears(), list, 0)
	wantCode(t, "0 days", code, impl.OK)
	wantList(t, "0 days", days)
	want(t, "0 days", left, f)
	_, days, code = impl.FeedDays(f, impl.CalmFears(), list, 60)
	wantCode(t, "MaxFeeding days", code, impl.OK)
	want(t, "MaxFeeding days", len(days), 60)
	for _, n := range farNumbers {
		if n < 0 || n > 60 {
			left, days, code := impl.FeedDays(f, impl.CalmFears(), list, n)
			wantCode(t, "days out of range", code, impl.ErrRange)
			want(t, "days out of range", left, impl.Field{})
			want(t, "days out of range", len(days), 0)
		}
	}
	_, _, code = impl.FeedDays(f, impl.CalmFears(), list, 61)
	wantCode(t, "one day more than MaxFeeding", code, impl.ErrRange)
}

func TestEatenBy(t *testing.T) {
	f, list := birdField(t), flocksOf(goodFlock(), 3)
	cases := []struct {
		name   string
		visits []impl.Visit
		code   int64
		eaten  []int64
	}{
		{"none", nil, impl.OK, []int64{0, 0, 0}},
		{"one", []impl.Visit{visited(1, 2, 7)}, impl.OK, []int64{0, 7, 0}},
		{"several", []impl.Visit{visited(2, 0, 4), visited(0, 2, 1), visited(2, 2, 8), visited(0, 0, 0)}, impl.OK, []int64{1, 0, 12}},
		{"as many as can be told", []impl.Visit{visited(2, 0, 32767), visited(2, 0, 32767), visited(2, 0, 2)}, impl.OK, []int64{0, 0, 65536}},
		{"no flock", []impl.Visit{visited(3, 0, 1)}, impl.ErrRange, nil},
		{"no flock, less than 0", []impl.Visit{visited(-1, 0, 1)}, impl.ErrRange, nil},
		{"no flock, least", []impl.Visit{visited(0, 0, 1), visited(-128, 0, 1)}, impl.ErrRange, nil},
		{"no flock, greatest", []impl.Visit{visited(0, 0, 1), visited(127, 0, 1)}, impl.ErrRange, nil},
		{"seeds less than 0", []impl.Visit{visited(2, 0, 1), visited(0, 0, -1)}, impl.ErrState, nil},
		{"seeds least", []impl.Visit{visited(0, 0, -32768), visited(1, 0, 1)}, impl.ErrState, nil},
		{"ErrRange before ErrState, of one", []impl.Visit{visited(3, 0, -1)}, impl.ErrRange, nil},
		{"ErrRange before ErrState, of all", []impl.Visit{visited(0, 0, -1), visited(3, 0, 1)}, impl.ErrRange, nil},
		{"cells are not looked at", []impl.Visit{visited(0, -1, 1), visited(1, 1, 2), visited(2, 999, 3)}, impl.OK, []int64{1, 2, 3}},
	}
	for _, c := range cases {
		eaten, code := impl.EatenBy(f, list, c.visits)
		wantCode(t, c.name, code, c.code)
		wantList(t, c.name, eaten, c.eaten...)
	}
	_, code := impl.EatenBy(f, nil, []impl.Visit{{}})
	wantCode(t, "a visit of no flocks", code, impl.ErrRange)
	many := make([]impl.Visit, 1000000)
	for i := range many {
		many[i] = impl.Visit{Flock: int8(i % 3), Seeds: 32767}
	}
	eaten, code := impl.EatenBy(f, list, many)
	wantCode(t, "a million visits", code, impl.OK)
	wantList(t, "a million visits", eaten, 333334*32767, 333333*32767, 333333*32767)
}

// P5: the visits are those that the rules tell, and the seeds that are left are those that they leave.
func TestP5FeedingIsAsTold(t *testing.T) {
	for _, w := range someWorlds() {
		behind, wanted := dayIn(w)
		left, visits, code := impl.FeedAll(w.f, w.fears, w.list)
		wantCode(t, "FeedAll", code, impl.OK)
		want(t, "FeedAll", left, behind)
		wantVisits(t, "FeedAll", visits, wanted...)
		for _, b := range w.list {
			behind, wanted := dayIn(world{w.f, w.fears, []impl.Flock{b}})
			left, visits, code := impl.FeedFlock(w.f, w.fears, b)
			wantCode(t, "FeedFlock", code, impl.OK)
			want(t, "FeedFlock", left, behind)
			wantVisits(t, "FeedFlock", visits, wanted...)
			checkEatOnce(t, w, b, wanted)
		}
	}
}

// checkEatOnce expects the first visit of a day.
func checkEatOnce(t *testing.T, w world, b impl.Flock, visits []impl.Visit) {
	t.Helper()
	left, visit, code := impl.EatOnce(w.f, w.fears, b)
	if len(visits) > 0 {
		wanted := w.f
		wanted.Seeds[visits[0].Cell] -= visits[0].Seeds
		wantCode(t, "EatOnce", code, impl.OK)
		want(t, "EatOnce", visit, visits[0])
		want(t, "EatOnce", left, wanted)
		return
	}
	wanted := int64(impl.ErrState)
	if choiceIn(w, b) < 0 {
		wanted = impl.ErrNotFound
	}
	wantCode(t, "EatOnce nothing", code, wanted)
	want(t, "EatOnce nothing", visit, impl.Visit{})
	want(t, "EatOnce nothing", left, impl.Field{})
}

// P5: seeds that are eaten and seeds that are left are those that were, in each cell and in all.
func TestP5SeedsAreEatenOrLeft(t *testing.T) {
	for _, w := range someWorlds() {
		left, visits, code := impl.FeedAll(w.f, w.fears, w.list)
		wantCode(t, "FeedAll", code, impl.OK)
		want(t, "a valid field behind FeedAll", impl.ValidField(left), true)
		again, sum := left, int64(0)
		for _, v := range visits {
			want(t, "something is eaten on a visit", v.Seeds > 0, true)
			again.Seeds[v.Cell] += v.Seeds
			sum += int64(v.Seeds)
		}
		want(t, "seeds eaten and left", again, w.f)
		before, _ := impl.SeedsIn(w.f)
		after, _ := impl.SeedsIn(left)
		want(t, "all seeds eaten and left", sum+after, before)
	}
}

// P5: no flock eats more than its hunger, nor makes more than MaxVisits visits; who is hungry has eaten less.
func TestP5NoFlockEatsMoreThanItsHunger(t *testing.T) {
	for _, w := range someWorlds() {
		_, visits, _ := impl.FeedAll(w.f, w.fears, w.list)
		eaten, code := impl.EatenBy(w.f, w.list, visits)
		wantCode(t, "EatenBy", code, impl.OK)
		want(t, "EatenBy, flocks", len(eaten), len(w.list))
		var hungry []int64
		for i, b := range w.list {
			sum, count := int64(0), 0
			for _, v := range visits {
				if int(v.Flock) == i {
					sum, count = sum+int64(v.Seeds), count+1
				}
			}
			hunger, _ := impl.HungerOf(w.f, b)
			want(t, "EatenBy", eaten[i], sum)
			want(t, "no more than its hunger", sum <= hunger, true)
			want(t, "no more than MaxVisits", count <= impl.MaxVisits, true)
			if sum < hunger {
				hungry = append(hungry, int64(i))
			}
		}
		still, code := impl.StillHungry(w.f, w.fears, w.list)
		wantCode(t, "StillHungry", code, impl.OK)
		wantList(t, "StillHungry", still, hungry...)
	}
}

// P5: several days are each like one.
func TestP5DaysAreFedOneByOne(t *testing.T) {
	for _, w := range someWorlds() {
		left, days, code := impl.FeedDays(w.f, w.fears, w.list, 5)
		wantCode(t, "FeedDays", code, impl.OK)
		for day := range 5 {
			behind, _, code := impl.FeedAll(w.f, w.fears, w.list)
			wantCode(t, "FeedAll", code, impl.OK)
			before, _ := impl.SeedsIn(w.f)
			after, _ := impl.SeedsIn(behind)
			want(t, "seeds of a day", days[day], before-after)
			w.f = behind
		}
		want(t, "days", len(days), 5)
		want(t, "FeedDays", left, w.f)
	}
}
