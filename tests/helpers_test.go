package tests

import (
	"math/big"
	"math/rand"
	"reflect"
	"slices"
	"strings"
	"testing"

	"loop.example/g01343/impl"
)

type frac = impl.Frac

type problem = impl.Problem

// mustParse returns the problem with a text.
func mustParse(t *testing.T, text string) problem {
	t.Helper()
	p, code := impl.ParseProblem(text)
	if code != impl.ErrNone {
		t.Fatalf("ParseProblem(%q): code %d", text, code)
	}
	return p
}

// wholes returns whole numbers as fractions.
func wholes(list ...int64) []frac {
	result := []frac{}
	for _, x := range list {
		result = append(result, frac{Num: x, Den: 1})
	}
	return result
}

// textsOf returns the texts of fractions, with blanks between them.
func textsOf(t *testing.T, list []frac) string {
	t.Helper()
	words := []string{}
	for _, a := range list {
		text, code := impl.FracText(a)
		if code != impl.ErrNone {
			t.Fatalf("FracText(%v): code %d", a, code)
		}
		words = append(words, text)
	}
	return strings.Join(words, " ")
}

// ratsFrom returns the fractions of a text, with blanks between them.
func ratsFrom(t *testing.T, text string) []*big.Rat {
	t.Helper()
	list := []*big.Rat{}
	for word := range strings.FieldsSeq(text) {
		x, ok := new(big.Rat).SetString(word)
		if !ok {
			t.Fatalf("no fraction: %q", word)
		}
		list = append(list, x)
	}
	return list
}

func fracsFrom(list []*big.Rat) []frac {
	result := []frac{}
	for _, x := range list {
		result = append(result, frac{Num: x.Num().Int64(), Den: x.Denom().Int64()})
	}
	return result
}

// fracsIn returns the fractions of a text, in lowest terms, also those beyond the limits.
func fracsIn(t *testing.T, text string) []frac {
	t.Helper()
	return fracsFrom(ratsFrom(t, text))
}

func ratOf(a frac) *big.Rat {
	return big.NewRat(a.Num, a.Den)
}

// isBeyond reports whether one of some numbers is beyond the limits of fractions.
func isBeyond(list ...*big.Rat) bool {
	limit := big.NewInt(impl.MaxFrac)
	return slices.ContainsFunc(list, func(x *big.Rat) bool { return x.Num().CmpAbs(limit) > 0 || x.Denom().Cmp(limit) > 0 })
}

// invalidProblems has problems that break one condition each.
func invalidProblems() map[string]problem {
	return map[string]problem{
		"zero":               {},
		"empty":              {M: [][]int64{}, Q: []int64{}},
		"no rows":            {Q: []int64{1}},
		"no right":           {M: [][]int64{{1}}},
		"nil row":            {M: [][]int64{nil}, Q: []int64{1}},
		"empty row":          {M: [][]int64{{1, 2}, {}}, Q: []int64{1, 1}},
		"short row":          {M: [][]int64{{1, 2}, {3}}, Q: []int64{1, 1}},
		"long row":           {M: [][]int64{{1, 2}, {3, 4, 5}}, Q: []int64{1, 1}},
		"row too few":        {M: [][]int64{{1, 2}}, Q: []int64{1, 1}},
		"row too many":       {M: [][]int64{{1}, {1}}, Q: []int64{1}},
		"right too short":    {M: [][]int64{{1, 2}, {3, 4}}, Q: []int64{1}},
		"right too long":     {M: [][]int64{{1, 2}, {3, 4}}, Q: []int64{1, 2, 3}},
		"size 6":             squareOf(6, 1),
		"entry above":        {M: [][]int64{{1, 2}, {21, 4}}, Q: []int64{1, 1}},
		"entry below":        {M: [][]int64{{1, -21}, {1, 4}}, Q: []int64{1, 1}},
		"entry least":        {M: [][]int64{{-1 << 63}}, Q: []int64{1}},
		"entry greatest":     {M: [][]int64{{1<<63 - 1}}, Q: []int64{1}},
		"right above":        {M: [][]int64{{1, 2}, {3, 4}}, Q: []int64{1, 101}},
		"right below":        {M: [][]int64{{1, 2}, {3, 4}}, Q: []int64{-101, 1}},
		"right least":        {M: [][]int64{{1}}, Q: []int64{-1 << 63}},
		"right greatest":     {M: [][]int64{{1}}, Q: []int64{1<<63 - 1}},
		"entry and right":    {M: [][]int64{{21}}, Q: []int64{101}},
		"last entry above":   {M: [][]int64{{0, 0, 0}, {0, 0, 0}, {0, 0, 21}}, Q: []int64{0, 0, 0}},
		"right but no entry": {M: [][]int64{{}}, Q: []int64{1}},
	}
}

// squareOf returns a problem with one number everywhere.
func squareOf(n int, x int64) problem {
	p := problem{}
	for range n {
		row := []int64{}
		for range n {
			row = append(row, x)
		}
		p.M = append(p.M, row)
		p.Q = append(p.Q, x)
	}
	return p
}

// invalidFracs has structs that are no fractions.
func invalidFracs() []frac {
	const least, greatest = -1 << 63, 1<<63 - 1
	return []frac{
		{}, {Num: 0, Den: 2}, {Num: 0, Den: -1}, {Num: 1, Den: 0}, {Num: 1, Den: -1}, {Num: -3, Den: -2},
		{Num: 2, Den: 4}, {Num: -2, Den: 4}, {Num: 6, Den: 3}, {Num: 0, Den: impl.MaxFrac},
		{Num: impl.MaxFrac, Den: impl.MaxFrac}, {Num: impl.MaxFrac + 1, Den: 1},
		{Num: -impl.MaxFrac - 1, Den: 1}, {Num: 1, Den: impl.MaxFrac + 1}, {Num: least, Den: 1},
		{Num: greatest, Den: 1}, {Num: 1, Den: least}, {Num: 1, Den: greatest}, {Num: least, Den: least},
		{Num: least, Den: -1}, {Num: greatest, Den: greatest}, {Num: 0, Den: least},
	}
}

// someProblems returns the same problems at each call, of all sizes, with small and great numbers
// and with many zeros.
func someProblems(count int) []problem {
	source := rand.New(rand.NewSource(1))
	list := []problem{}
	for i := range count {
		n := i%impl.MaxSize + 1
		entry, right := int64(impl.MaxEntry), int64(impl.MaxRight)
		if i%3 == 0 {
			entry, right = 2, 3
		}
		p := squareOf(n, 0)
		for r := range n {
			p.Q[r] = source.Int63n(2*right+1) - right
			for c := range n {
				p.M[r][c] = source.Int63n(2*entry+1) - entry
			}
		}
		list = append(list, p)
	}
	return list
}

// guarded returns a copy of a list with spare capacity, and a function that reports whether
// neither the list nor what is behind it has been changed.
func guarded[T any](list []T, behind T) ([]T, func() bool) {
	whole := append(append([]T{}, list...), behind, behind)
	want := append([]T{}, whole...)
	return whole[:len(list)], func() bool { return reflect.DeepEqual(whole, want) }
}

// guardedProblem does the same with all slices of a problem.
func guardedProblem(p problem) (problem, func() bool) {
	checks := []func() bool{}
	result := problem{}
	for _, row := range p.M {
		kept, check := guarded(row, 77)
		result.M = append(result.M, kept)
		checks = append(checks, check)
	}
	rows, check := guarded(result.M, []int64{88})
	result.M = rows
	checks = append(checks, check)
	right, check := guarded(p.Q, 99)
	result.Q = right
	checks = append(checks, check)
	return result, func() bool {
		for _, c := range checks {
			if !c() {
				return false
			}
		}
		return true
	}
}

// allSets returns the sets of a size.
func allSets(n int) []int64 {
	list := []int64{}
	for s := range int64(1) << n {
		list = append(list, s)
	}
	return list
}

// spoilRows fills each row and its spare capacity with a number, and looks whether the others stay.
func spoilRows(t *testing.T, name string, rows [][]int64) {
	t.Helper()
	spoilWith(t, name, rows, func(i int) int64 { return int64(1000 + i) })
}

// spoilFracs does the same with lists of fractions.
func spoilFracs(t *testing.T, name string, lists [][]frac) {
	t.Helper()
	spoilWith(t, name, lists, func(i int) frac { return frac{Num: int64(1000 + i), Den: 7} })
}

// spoilWith goes forth and back: what reaches into the row behind it is covered up again going forth.
func spoilWith[T comparable](t *testing.T, name string, rows [][]T, mark func(int) T) {
	t.Helper()
	places := []int{}
	for i := range rows {
		places = append(places, i)
	}
	for range 2 {
		for _, i := range places {
			whole := rows[i][:cap(rows[i])]
			for k := range whole {
				whole[k] = mark(i)
			}
		}
		for i, row := range rows {
			for _, x := range row {
				if x != mark(i) {
					t.Errorf("%s: the row %d shares memory", name, i)
				}
			}
		}
		slices.Reverse(places)
	}
}

// exactPoint solves the equations of a set by elimination, apart from the program; it returns nil
// if the set is not basic.
func exactPoint(p problem, s int64) []*big.Rat {
	return exactSolution(exactRows(p, s))
}

// exactSolution solves equations, each with the number of its right side behind it; it returns nil
// if they have not just one solution. It changes the rows.
func exactSolution(rows [][]*big.Rat) []*big.Rat {
	n := len(rows)
	for c := range n {
		r := c
		for r < n && rows[r][c].Sign() == 0 {
			r++
		}
		if r == n {
			return nil
		}
		rows[r], rows[c] = rows[c], rows[r]
		inverse := new(big.Rat).Inv(rows[c][c])
		for k := range rows[c] {
			rows[c][k] = new(big.Rat).Mul(rows[c][k], inverse)
		}
		for i := range rows {
			factor := rows[i][c]
			for k := range rows[i] {
				if i != c {
					rows[i][k] = new(big.Rat).Sub(rows[i][k], new(big.Rat).Mul(factor, rows[c][k]))
				}
			}
		}
	}
	solution := []*big.Rat{}
	for _, row := range rows {
		solution = append(solution, row[n])
	}
	return solution
}

// exactRows returns the equations of a set, each with its number of Q behind it.
func exactRows(p problem, s int64) [][]*big.Rat {
	rows := [][]*big.Rat{}
	for k := range p.M {
		row := []*big.Rat{}
		for i := range p.M {
			switch {
			case s>>i&1 == 1:
				row = append(row, big.NewRat(-p.M[k][i], 1))
			case i == k:
				row = append(row, big.NewRat(1, 1))
			default:
				row = append(row, new(big.Rat))
			}
		}
		rows = append(rows, append(row, big.NewRat(p.Q[k], 1)))
	}
	return rows
}

// reply is what one function returns; zero tells whether all but the code has the zero value.
type reply struct {
	name   string
	result []any
	zero   bool
	code   int64
}

// checkRefused looks whether all answers are zero values beside a code.
func checkRefused(t *testing.T, what string, answers []reply, code int64) {
	t.Helper()
	for _, answer := range answers {
		if !answer.zero || answer.code != code {
			t.Errorf("%s: %s = %v, %d, want code %d", what, answer.name, answer.result, answer.code, code)
		}
	}
}

// sameRows takes nil and empty lists as the same.
func sameRows(a, b rows) bool {
	return slices.EqualFunc(a, b, func(x, y []int64) bool { return slices.Equal(x, y) })
}

// checkSolution looks whether what a function returned is a solution, by the program and apart from it.
func checkSolution(t *testing.T, name string, p problem, z []frac, code int64) {
	t.Helper()
	if len(z) != len(p.M) || code != impl.ErrNone {
		t.Fatalf("%s of %v = %v, %d", name, p, z, code)
	}
	if yes, code := impl.IsSolution(p, z); !yes || code != impl.ErrNone {
		t.Errorf("%s of %v = %v, but IsSolution is %v, %d", name, p, z, yes, code)
	}
	for i, w := range exactRemainder(p, z) {
		if z[i].Num < 0 || w.Sign() < 0 || z[i].Num != 0 && w.Sign() != 0 {
			t.Errorf("%s of %v = %v: at %d it is none", name, p, z, i)
		}
	}
}
