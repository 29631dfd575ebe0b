package impl

import (
	"errors"
	"iter"
	"math/bits"
	"slices"
	"strconv"
	"strings"
)

// Error codes.
const (
	OK          = 0
	ErrInvalid  = 1
	ErrRange    = 2
	ErrLimit    = 3
	ErrState    = 4
	ErrSyntax   = 5
	ErrNotFound = 6
	ErrBudget   = 7
	ErrProof    = 8
)

// Limits of fields.
const (
	Stride   = 10
	MaxSeeds = 1000
)

// Kinds of cells.
const (
	KiSoil  = 0
	KiHedge = 1
	KiPath  = 2
	KiTree  = 3
)

// maxSquare is the greatest square that may be asked for.
const maxSquare = 200

// allNumbers is how many numbers a cell can have, in the largest field.
const allNumbers = Stride * Stride

// Cells is a set of cells.
type Cells [2]uint64

// Field has cells with kinds and seeds.
type Field struct {
	Wide  int8
	High  int8
	Kinds [100]uint8
	Seeds [100]int16
}

// The text of each error is the name of its code.
var (
	errInvalid  = errors.New("invalid")
	errRange    = errors.New("range")
	errLimit    = errors.New("limit")
	errState    = errors.New("state")
	errSyntax   = errors.New("syntax")
	errNotFound = errors.New("notfound")
	errBudget   = errors.New("budget")
	errProof    = errors.New("proof")
)

// errorOf returns the error of a code, nil for a number that is none.
func errorOf(code int64) error {
	switch code {
	case ErrInvalid:
		return errInvalid
	case ErrRange:
		return errRange
	case ErrLimit:
		return errLimit
	case ErrState:
		return errState
	case ErrSyntax:
		return errSyntax
	case ErrNotFound:
		return errNotFound
	case ErrBudget:
		return errBudget
	case ErrProof:
		return errProof
	}
	return nil
}

// codeOf returns the code of an error, OK for nil.
func codeOf(err error) int64 {
	for code := int64(ErrInvalid); code <= ErrProof; code++ {
		if errors.Is(err, errorOf(code)) {
			return code
		}
	}
	return OK
}

// CodeName returns the name of an error code.
func CodeName(code int64) string {
	if code == OK {
		return "ok"
	}
	if err := errorOf(code); err != nil {
		return err.Error()
	}
	return ""
}

// spot is what one cell has.
type spot struct {
	kind  uint8
	seeds int16
}

func (s spot) soilWord() string  { return strconv.Itoa(int(s.seeds)) }
func (s spot) hedgeWord() string { return "h" }
func (s spot) pathWord() string  { return "p" }
func (s spot) treeWord() string  { return "t" }

// wordsByKind tells how a spot of each kind is written.
func wordsByKind() [4]func(spot) string {
	return [4]func(spot) string{
		KiSoil:  spot.soilWord,
		KiHedge: spot.hedgeWord,
		KiPath:  spot.pathWord,
		KiTree:  spot.treeWord,
	}
}

// isValid reports whether a cell of a valid field may have this.
func (s spot) isValid() bool {
	if s.kind == KiSoil {
		return isSeeds(int64(s.seeds))
	}
	return isKind(int64(s.kind)) && s.seeds == 0
}

func spotAt(f Field, cell int64) spot {
	return spot{f.Kinds[cell], f.Seeds[cell]}
}

func withSpot(f Field, cell int64, s spot) Field {
	changed := f
	changed.Kinds[cell], changed.Seeds[cell] = s.kind, s.seeds
	return changed
}

func isSize(n int64) bool   { return n >= 1 && n <= Stride }
func isSeeds(n int64) bool  { return n >= 0 && n <= MaxSeeds }
func isKind(n int64) bool   { return n >= KiSoil && n <= KiTree }
func isNumber(n int64) bool { return n >= 0 && n < allNumbers }

func placeOf(cell int64) (x, y int64) { return cell % Stride, cell / Stride }
func cellAt(x, y int64) int64         { return x + Stride*y }

func hasPlace(f Field, x, y int64) bool {
	return x >= 0 && x < int64(f.Wide) && y >= 0 && y < int64(f.High)
}

// fieldHas reports whether a number is a cell. Negative numbers need no check
// of their own, since x or y of their place is negative, too.
func fieldHas(f Field, cell int64) bool {
	x, y := placeOf(cell)
	return hasPlace(f, x, y)
}

// cellsIn goes through the cells of a field, in ascending order. Wide and High
// must be as in a valid field.
func cellsIn(f Field) iter.Seq[int64] {
	return func(yield func(int64) bool) {
		for y := range int64(f.High) {
			for x := range int64(f.Wide) {
				if !yield(cellAt(x, y)) {
					return
				}
			}
		}
	}
}

// checkFields finds out whether all fields are valid. Fields that are passed
// together (those of chapters 6 and 7, from before and after) are often equal,
// and then one look is enough for both.
func checkFields(fields ...Field) error {
	known := map[Field]bool{}
	for _, f := range fields {
		if !known[f] && !ValidField(f) {
			return errInvalid
		}
		known[f] = true
	}
	return nil
}

// checkCells finds out whether a field is valid, and has all of these cells.
func checkCells(f Field, cells ...int64) error {
	if err := checkFields(f); err != nil {
		return err
	}
	for _, cell := range cells {
		if !fieldHas(f, cell) {
			return errRange
		}
	}
	return nil
}

// ValidField reports whether f is valid.
func ValidField(f Field) bool {
	if !isSize(int64(f.Wide)) || !isSize(int64(f.High)) {
		return false
	}
	outside := f
	for cell := range cellsIn(f) {
		if !spotAt(f, cell).isValid() {
			return false
		}
		outside.Kinds[cell], outside.Seeds[cell] = 0, 0
	}
	return outside == Field{Wide: f.Wide, High: f.High}
}

// SameField reports whether two fields are equal.
func SameField(a, b Field) bool {
	return a == b
}

// PlainField returns a field of soil.
func PlainField(wide, high, seeds int64) (Field, int64) {
	if !isSize(wide) || !isSize(high) || !isSeeds(seeds) {
		return Field{}, codeOf(errRange)
	}
	f := Field{Wide: int8(wide), High: int8(high)}
	for cell := range cellsIn(f) {
		f.Seeds[cell] = int16(seeds)
	}
	return f, OK
}

// KindAt returns the kind of a cell.
func KindAt(f Field, cell int64) (int64, int64) {
	if err := checkCells(f, cell); err != nil {
		return 0, codeOf(err)
	}
	return int64(f.Kinds[cell]), OK
}

// SeedsAt returns the seeds of a cell.
func SeedsAt(f Field, cell int64) (int64, int64) {
	if err := checkCells(f, cell); err != nil {
		return 0, codeOf(err)
	}
	return int64(f.Seeds[cell]), OK
}

// WithKind gives a cell a kind.
func WithKind(f Field, cell, kind int64) (Field, int64) {
	if err := checkCells(f, cell); err != nil {
		return Field{}, codeOf(err)
	}
	if !isKind(kind) {
		return Field{}, codeOf(errRange)
	}
	s := spot{kind: uint8(kind)}
	if kind == KiSoil {
		s.seeds = f.Seeds[cell]
	}
	return withSpot(f, cell, s), OK
}

// SowCell adds seeds to a cell.
func SowCell(f Field, cell, seeds int64) (Field, int64) {
	if err := checkSowing(f, cell, seeds); err != nil {
		return Field{}, codeOf(err)
	}
	s := spotAt(f, cell)
	s.seeds += int16(seeds)
	return withSpot(f, cell, s), OK
}

func checkSowing(f Field, cell, seeds int64) error {
	if err := checkCells(f, cell); err != nil {
		return err
	}
	if !isSeeds(seeds) {
		return errRange
	}
	if f.Kinds[cell] != KiSoil {
		return errState
	}
	if !isSeeds(int64(f.Seeds[cell]) + seeds) {
		return errLimit
	}
	return nil
}

// TakeSeeds takes seeds from a cell.
func TakeSeeds(f Field, cell, most int64) (Field, int64, int64) {
	if err := checkCells(f, cell); err != nil {
		return Field{}, 0, codeOf(err)
	}
	if most < 0 {
		return Field{}, 0, codeOf(errRange)
	}
	left, taken := takeFrom(f, cell, most)
	return left, taken, OK
}

// takeFrom is TakeSeeds for arguments that are known to be in order.
func takeFrom(f Field, cell, most int64) (Field, int64) {
	s := spotAt(f, cell)
	taken := min(most, int64(s.seeds))
	s.seeds -= int16(taken)
	return withSpot(f, cell, s), taken
}

// SeedsIn returns the sum of all seeds.
func SeedsIn(f Field) (int64, int64) {
	if err := checkFields(f); err != nil {
		return 0, codeOf(err)
	}
	sum := int64(0)
	for cell := range cellsIn(f) {
		sum += int64(f.Seeds[cell])
	}
	return sum, OK
}

// CellsOfKind returns all cells of a kind.
func CellsOfKind(f Field, kind int64) (Cells, int64) {
	if err := checkFields(f); err != nil {
		return Cells{}, codeOf(err)
	}
	if !isKind(kind) {
		return Cells{}, codeOf(errRange)
	}
	return cellsWhere(f, func(cell int64) bool { return int64(f.Kinds[cell]) == kind }), OK
}

// cellsWhere returns the set of the cells of a field that are wanted.
func cellsWhere(f Field, wanted func(cell int64) bool) Cells {
	var set Cells
	for cell := range cellsIn(f) {
		if wanted(cell) {
			set = withCell(set, cell)
		}
	}
	return set
}

func withCell(c Cells, cell int64) Cells {
	c[cell/64] |= 1 << (cell % 64)
	return c
}

// onlyNumbers leaves away the bits of numbers that no cell can have.
func onlyNumbers(c Cells) Cells {
	return Cells{c[0], c[1] & (1<<(allNumbers-64) - 1)}
}

// numbersIn goes through the numbers of a set, in ascending order.
func numbersIn(c Cells) iter.Seq[int64] {
	return func(yield func(int64) bool) {
		for n := range int64(allNumbers) {
			if HasCell(c, n) && !yield(n) {
				return
			}
		}
	}
}

// HasCell reports whether a number is in a set.
func HasCell(c Cells, cell int64) bool {
	return isNumber(cell) && c[cell/64]>>(cell%64)&1 == 1
}

// CountCells returns how many numbers are in a set.
func CountCells(c Cells) int64 {
	c = onlyNumbers(c)
	return int64(bits.OnesCount64(c[0]) + bits.OnesCount64(c[1]))
}

// CellsOf returns the set of a list.
func CellsOf(list []int64) (Cells, int64) {
	var set Cells
	for _, n := range list {
		if !isNumber(n) {
			return Cells{}, codeOf(errRange)
		}
		set = withCell(set, n)
	}
	return set, OK
}

// ListOf returns the numbers of a set.
func ListOf(c Cells) []int64 {
	return slices.Collect(numbersIn(c))
}

// UnionOf returns what is in one of two sets.
func UnionOf(a, b Cells) Cells {
	return onlyNumbers(Cells{a[0] | b[0], a[1] | b[1]})
}

// BothOf returns what is in both of two sets.
func BothOf(a, b Cells) Cells {
	return onlyNumbers(Cells{a[0] & b[0], a[1] & b[1]})
}

// WithoutOf returns what is in a, but not in b.
func WithoutOf(a, b Cells) Cells {
	return onlyNumbers(Cells{a[0] &^ b[0], a[1] &^ b[1]})
}

// squareBetween is SquareOf for cells that are known to be some.
func squareBetween(a, b int64) int64 {
	ax, ay := placeOf(a)
	bx, by := placeOf(b)
	return (ax-bx)*(ax-bx) + (ay-by)*(ay-by)
}

// SquareOf returns the square of two cells.
func SquareOf(f Field, a, b int64) (int64, int64) {
	if err := checkCells(f, a, b); err != nil {
		return 0, codeOf(err)
	}
	return squareBetween(a, b), OK
}

// RingOf returns all cells near to a cell.
func RingOf(f Field, cell, square int64) (Cells, int64) {
	if err := checkCells(f, cell); err != nil {
		return Cells{}, codeOf(err)
	}
	if square < 0 || square > maxSquare {
		return Cells{}, codeOf(errRange)
	}
	return cellsWhere(f, func(other int64) bool { return squareBetween(cell, other) <= square }), OK
}

// inField returns the numbers of a set that are cells of a field.
func inField(f Field, set Cells) Cells {
	return cellsWhere(f, func(cell int64) bool { return HasCell(set, cell) })
}

// bestIn returns the cell of a field, in a set, with the greatest worth, the
// least number of several.
func bestIn(f Field, set Cells, worth func(cell int64) int64) (int64, error) {
	inside := inField(f, set)
	if inside == (Cells{}) {
		return 0, errNotFound
	}
	best := int64(-1)
	for cell := range numbersIn(inside) {
		if best < 0 || worth(cell) > worth(best) {
			best = cell
		}
	}
	return best, nil
}

// NearestIn returns the nearest cell of a set.
func NearestIn(f Field, cell int64, set Cells) (int64, int64, int64) {
	if err := checkCells(f, cell); err != nil {
		return 0, 0, codeOf(err)
	}
	nearest, err := bestIn(f, set, func(other int64) int64 { return -squareBetween(cell, other) })
	if err != nil {
		return 0, 0, codeOf(err)
	}
	return nearest, squareBetween(cell, nearest), OK
}

// RichestIn returns the cell of a set with the most seeds.
func RichestIn(f Field, set Cells) (int64, int64, int64) {
	if err := checkFields(f); err != nil {
		return 0, 0, codeOf(err)
	}
	richest, err := bestIn(f, set, func(cell int64) int64 { return int64(f.Seeds[cell]) })
	if err != nil {
		return 0, 0, codeOf(err)
	}
	return richest, int64(f.Seeds[richest]), OK
}

// NeighboursOf returns the cells beside a cell.
func NeighboursOf(f Field, cell int64) ([]int64, int64) {
	if err := checkCells(f, cell); err != nil {
		return nil, codeOf(err)
	}
	return neighboursOf(f, cell), OK
}

// neighboursOf is NeighboursOf for arguments that are known to be in order.
func neighboursOf(f Field, cell int64) []int64 {
	x, y := placeOf(cell)
	var list []int64
	for _, place := range [4][2]int64{{x, y - 1}, {x - 1, y}, {x + 1, y}, {x, y + 1}} {
		if hasPlace(f, place[0], place[1]) {
			list = append(list, cellAt(place[0], place[1]))
		}
	}
	return list
}

// rearranged returns a field with the given sides. What comes to the place x, y
// of it stood in the cell of f that from tells.
func rearranged(f Field, wide, high int8, from func(x, y int64) int64) Field {
	g := Field{Wide: wide, High: high}
	for cell := range cellsIn(g) {
		g = withSpot(g, cell, spotAt(f, from(placeOf(cell))))
	}
	return g
}

// MirrorField exchanges west and east.
func MirrorField(f Field) (Field, int64) {
	if err := checkFields(f); err != nil {
		return Field{}, codeOf(err)
	}
	east := int64(f.Wide) - 1
	return rearranged(f, f.Wide, f.High, func(x, y int64) int64 { return cellAt(east-x, y) }), OK
}

// TurnField turns a field by a quarter.
func TurnField(f Field) (Field, int64) {
	if err := checkFields(f); err != nil {
		return Field{}, codeOf(err)
	}
	south := int64(f.High) - 1
	return rearranged(f, f.High, f.Wide, func(x, y int64) int64 { return cellAt(y, south-x) }), OK
}

// FieldText returns the text of a field.
func FieldText(f Field) string {
	if !ValidField(f) {
		return ""
	}
	words := wordsByKind()
	var text strings.Builder
	for cell := range cellsIn(f) {
		s := spotAt(f, cell)
		text.WriteString(words[s.kind](s))
		if x, _ := placeOf(cell); x == int64(f.Wide)-1 {
			text.WriteByte('\n')
		} else {
			text.WriteByte(' ')
		}
	}
	return text.String()
}

// ReadField returns the field with the given text.
func ReadField(text string) (Field, int64) {
	f, err := fieldFrom(text)
	if err != nil {
		return Field{}, codeOf(err)
	}
	return f, OK
}

// fieldFrom reads more than texts of fields, such as "07" and rows of several
// lengths. So in the end it holds the text against the one that the field has.
func fieldFrom(text string) (Field, error) {
	rows := strings.Split(strings.TrimSuffix(text, "\n"), "\n")
	if len(rows) > Stride {
		return Field{}, errSyntax
	}
	f := Field{High: int8(len(rows))}
	for y, row := range rows {
		words := strings.Split(row, " ")
		if len(words) > Stride {
			return Field{}, errSyntax
		}
		f.Wide = int8(len(words))
		for x, word := range words {
			s, err := spotFrom(word)
			if err != nil {
				return Field{}, err
			}
			f = withSpot(f, cellAt(int64(x), int64(y)), s)
		}
	}
	if FieldText(f) != text {
		return Field{}, errSyntax
	}
	return f, nil
}

func spotFrom(word string) (spot, error) {
	for kind, wordOf := range wordsByKind() {
		s := spot{kind: uint8(kind)}
		if word == wordOf(s) {
			return s, nil
		}
	}
	seeds, err := strconv.ParseInt(word, 10, 16)
	if err != nil {
		return spot{}, errSyntax
	}
	return spot{kind: KiSoil, seeds: int16(seeds)}, nil
}
