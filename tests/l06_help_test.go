package tests

import (
	"math/rand/v2"
	"slices"
	"strconv"
	"strings"
	"testing"

	"loop.example/g01338/impl"
)

// lossScene is two fields that are before and after one another, owners that are valid for both, a sample, and claims.
type lossScene struct {
	before, after impl.Field
	o             impl.Owners
	sample        impl.Cells
	claims        []int64
}

// someLossScenes returns scenes of all sizes; few different losses make many ties, and claims are near to losses.
func someLossScenes() []lossScene {
	r := rand.New(rand.NewPCG(31, 32))
	var list []lossScene
	for range 5 {
		for _, f := range someFields() {
			list = append(list, someLossScene(r, f))
		}
	}
	return list
}

func someLossScene(r *rand.Rand, f impl.Field) lossScene {
	s := lossScene{before: f, after: f, o: ownersOf(f, func(int64) int64 { return 0 })}
	many := 1 + r.IntN(10)
	for n := range int64(100) {
		if !isCell(f, n) {
			continue
		}
		s.o[n] = int8(10 - many + r.IntN(many))
		s.after.Seeds[n] -= min(f.Seeds[n], []int16{0, 0, 1, 2, 7, 998, 1000}[r.IntN(7)])
	}
	s.sample = impl.Cells{r.Uint64() & r.Uint64(), r.Uint64() & r.Uint64()}
	if r.IntN(4) == 0 {
		s.sample = setOf(r.IntN(100), r.IntN(100))
	}
	for _, loss := range lossesByOwnerIn(s) {
		s.claims = append(s.claims, max(0, loss+int64(r.IntN(3))-1))
	}
	return s
}

// ownersOf returns owners that are valid for a field, if whose tells owners.
func ownersOf(f impl.Field, whose func(n int64) int64) impl.Owners {
	var o impl.Owners
	for n := range int64(100) {
		o[n] = -1
		if isCell(f, n) {
			o[n] = int8(whose(n))
		}
	}
	return o
}

// lossAt tells, without the package, what a number has less.
func (s lossScene) lossAt(n int64) int64 { return int64(s.before.Seeds[n]) - int64(s.after.Seeds[n]) }

// soilAt tells, without the package, whether a number is a soil cell.
func (s lossScene) soilAt(n int64) bool {
	return isCell(s.before, n) && s.before.Kinds[n] == impl.KiSoil
}

// sumOver adds up what numbers are worth that are wanted.
func sumOver(worth func(n int64) int64, wanted func(n int64) bool) int64 {
	sum := int64(0)
	for n := range int64(100) {
		if wanted(n) {
			sum += worth(n)
		}
	}
	return sum
}

// lessIn tells how many seeds fewer there are after than before, all together.
func (s lossScene) lessIn() int64 {
	return seedsOf(s.before) - seedsOf(s.after)
}

func seedsOf(f impl.Field) int64 {
	sum := int64(0)
	for _, seeds := range f.Seeds {
		sum += int64(seeds)
	}
	return sum
}

func lossesByOwnerIn(s lossScene) []int64 {
	losses := make([]int64, 10)
	for n, owner := range s.o {
		if owner >= 0 {
			losses[owner] += s.lossAt(int64(n))
		}
	}
	return losses
}

// bordersIn tells, without the package, what BordersOf returns.
func bordersIn(f impl.Field, o impl.Owners) [][2]int64 {
	share := func(a, b int64) bool {
		for n := range int64(100) {
			for m := range int64(100) {
				if isCell(f, n) && isCell(f, m) && areBeside(n, m) && int64(o[n]) == a && int64(o[m]) == b {
					return true
				}
			}
		}
		return false
	}
	var borders [][2]int64
	for a := range int64(10) {
		for b := a + 1; b < 10; b++ {
			if share(a, b) {
				borders = append(borders, [2]int64{a, b})
			}
		}
	}
	return borders
}

// sharesIn tells, without the package, what SharesOf returns: of what is left, one after the other goes to the one with the greatest remainder who has got none of it.
func sharesIn(amounts []int64, money int64) []int64 {
	sum := sumOf(amounts)
	shares, rests := make([]int64, len(amounts)), make([]int64, len(amounts))
	for i, amount := range amounts {
		if sum > 0 {
			shares[i] = money * amount / sum
			rests[i] = money*amount - shares[i]*sum
		}
	}
	for left := money - sumOf(shares); left > 0; left-- {
		first := slices.Index(rests, slices.Max(rests))
		shares[first]++
		rests[first] = -1
	}
	return shares
}

// areSharesIn tells, without the package, whether shares sum to the money, and none is off by 1 or more.
func areSharesIn(amounts []int64, money int64, shares []int64) bool {
	sum := sumOf(amounts)
	if len(shares) != len(amounts) || sumOf(shares) != money {
		return false
	}
	for i, share := range shares {
		if share < 0 || share > 1000000 {
			return false
		}
		off := share*sum - money*amounts[i]
		if sum == 0 && share != 0 || sum > 0 && (off <= -sum || off >= sum) {
			return false
		}
	}
	return true
}

// awardsIn tells, without the package, what EqualAwards returns: the money goes round, and each one who is not content yet takes 1.
func awardsIn(claims []int64, money int64) []int64 {
	awards := make([]int64, len(claims))
	for money > 0 && !slices.Equal(awards, claims) {
		for i := range claims {
			if awards[i] < claims[i] && money > 0 {
				awards[i]++
				money--
			}
		}
	}
	return awards
}

// areAwardsIn tells, without the package, whether awards are as told.
func areAwardsIn(claims []int64, money int64, awards []int64) bool {
	if len(awards) != len(claims) || sumOf(awards) != min(money, sumOf(claims)) {
		return false
	}
	for i, award := range awards {
		if award < 0 || award > claims[i] {
			return false
		}
		for _, other := range awards {
			if award < claims[i] && other-award > 1 {
				return false
			}
		}
	}
	return true
}

// ownersTextIn tells, without the package, what OwnersText returns for owners that are valid for a field.
func ownersTextIn(f impl.Field, o impl.Owners) string {
	var rows []string
	for y := range int(f.High) {
		var words []string
		for x := range int(f.Wide) {
			words = append(words, strconv.Itoa(int(o[x+10*y])))
		}
		rows = append(rows, strings.Join(words, " "))
	}
	return strings.Join(rows, "\n") + "\n\n" + impl.FieldText(f)
}

// lossBefore and lossAfter are before and after one another: the cells 0, 3, 20, 22 and 23 lose 2, 9, 4, 5 and 7, and 3 and 20 are bare then.
func lossBefore(t *testing.T) impl.Field {
	t.Helper()
	return fieldOf(t, "3 h 5 9", "t 2 0 p", "4 6 6 1000")
}

func lossAfter(t *testing.T) impl.Field {
	t.Helper()
	return fieldOf(t, "1 h 5 0", "t 2 0 p", "0 6 1 993")
}

// goodOwners are valid for lossBefore and lossAfter, and lose 2, 0, 4 and 12, and 9 for the last one.
func goodOwners() impl.Owners {
	return ownersAt(map[int]int8{
		0: 0, 1: 0, 2: 1, 3: 9,
		10: 2, 11: 0, 12: 1, 13: 9,
		20: 2, 21: 0, 22: 3, 23: 3,
	})
}

// ownersAt returns owners of some numbers; the others have none.
func ownersAt(at map[int]int8) impl.Owners {
	var o impl.Owners
	for n := range o {
		o[n] = -1
	}
	for n, owner := range at {
		o[n] = owner
	}
	return o
}

// rowOwners returns owners of the first cells of the first row.
func rowOwners(list ...int8) impl.Owners {
	at := map[int]int8{}
	for n, owner := range list {
		at[n] = owner
	}
	return ownersAt(at)
}

// brokenOwners returns owners that are not valid for lossBefore, each in one way.
func brokenOwners() map[string]impl.Owners {
	broken := map[string]impl.Owners{
		"zero":                  {},
		"none at all":           ownersAt(nil),
		"those of fewer cells":  ownersOf(impl.Field{Wide: 3, High: 3}, func(int64) int64 { return 0 }),
		"those of fewer rows":   ownersOf(impl.Field{Wide: 4, High: 2}, func(int64) int64 { return 0 }),
		"those of more cells":   ownersOf(impl.Field{Wide: 5, High: 3}, func(int64) int64 { return 0 }),
		"those of more rows":    ownersOf(impl.Field{Wide: 4, High: 4}, func(int64) int64 { return 0 }),
		"those of other sides":  ownersOf(impl.Field{Wide: 3, High: 4}, func(int64) int64 { return 0 }),
		"those of all numbers":  ownersOf(impl.Field{Wide: 10, High: 10}, func(int64) int64 { return 9 }),
		"those of the only one": ownersOf(impl.Field{Wide: 1, High: 1}, func(int64) int64 { return 1 }),
	}
	with := func(name string, n int, owner int8) {
		o := goodOwners()
		o[n] = owner
		broken[name+" "+strconv.Itoa(int(owner))] = o
	}
	for _, owner := range []int8{-1, 10, 11, -2, 100, 127, -128} {
		for name, n := range map[string]int{"first": 0, "hedge": 1, "tree": 10, "bare soil": 12, "path": 13, "last": 23} {
			with(name, n, owner)
		}
	}
	for _, owner := range []int8{0, 1, 9, 10, -2, 127, -128} {
		for name, n := range map[string]int{"east": 4, "end of the first row": 9, "east, in the last row": 24, "south": 30, "south, in the last column": 33, "number 99": 99} {
			with(name, n, owner)
		}
	}
	return broken
}

// notAfter returns valid fields that are not after lossBefore, each in one way.
func notAfter(t *testing.T) map[string]impl.Field {
	list := map[string]impl.Field{
		"narrower":                     fieldOf(t, "3 h 5", "t 2 0", "4 6 6"),
		"wider":                        fieldOf(t, "3 h 5 9 0", "t 2 0 p 0", "4 6 6 1000 0"),
		"lower":                        fieldOf(t, "3 h 5 9", "t 2 0 p"),
		"higher":                       fieldOf(t, "3 h 5 9", "t 2 0 p", "4 6 6 1000", "0 0 0 0"),
		"turned":                       fieldOf(t, "4 t 3", "6 2 h", "6 0 5", "1000 p 9"),
		"without any cells but one":    fieldOf(t, "3"),
		"as large as can be":           plainField(t, 10, 10),
		"soil instead of a hedge":      fieldOf(t, "3 0 5 9", "t 2 0 p", "4 6 6 1000"),
		"soil instead of a tree":       fieldOf(t, "3 h 5 9", "0 2 0 p", "4 6 6 1000"),
		"a path instead of a tree":     fieldOf(t, "3 h 5 9", "p 2 0 p", "4 6 6 1000"),
		"a tree instead of a path":     fieldOf(t, "3 h 5 9", "t 2 0 t", "4 6 6 1000"),
		"a hedge instead of bare soil": fieldOf(t, "3 h 5 9", "t 2 h p", "4 6 6 1000"),
		"a hedge instead of seeds":     fieldOf(t, "h h 5 9", "t 2 0 p", "4 6 6 1000"),
		"a path as the last cell":      fieldOf(t, "3 h 5 9", "t 2 0 p", "4 6 6 p"),
		"mirrored":                     fieldOf(t, "9 5 h 3", "p 0 2 t", "1000 6 6 4"),
		"one more in the first cell":   fieldOf(t, "4 h 5 9", "t 2 0 p", "4 6 6 1000"),
		"one more in bare soil":        fieldOf(t, "3 h 5 9", "t 2 1 p", "4 6 6 1000"),
		"one more in the last row":     fieldOf(t, "3 h 5 9", "t 2 0 p", "4 6 7 1000"),
		"MaxSeeds in one cell":         fieldOf(t, "3 h 5 9", "t 2 0 p", "1000 6 6 1000"),
		"more, and much less":          fieldOf(t, "0 h 0 0", "t 0 0 p", "0 7 0 0"),
		"more in the first cell only":  fieldOf(t, "4 h 0 0", "t 0 0 p", "0 0 0 0"),
	}
	return list
}

// wantBorders takes nil and empty lists for equal ones.
func wantBorders(t *testing.T, name string, got [][2]int64, wanted ...[2]int64) {
	t.Helper()
	if !slices.Equal(got, wanted) {
		t.Errorf("%s: got %v, want %v", name, got, wanted)
	}
}
