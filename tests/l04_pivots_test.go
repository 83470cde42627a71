package tests

import (
	"cmp"
	"math/big"
	"math/rand"
	"reflect"
	"slices"
	"strconv"
	"testing"

	"loop.example/g01343/impl"
)

type pivot = impl.Pivot

// callPivots calls all functions of chapter 4 that take a set, and then those that take none.
func callPivots(p problem, s, other int64, chain []int64) ([]reply, []reply) {
	of, a := impl.PivotOf(p, s)
	whole, b := impl.IsWholePivot(p, s)
	pivoted, c := impl.PivotedProblem(p, s)
	above, below, d := impl.PivotMinor(p, s, other)
	complement, den, e := impl.ComplementOf(p, s)
	signs, f := impl.SignsOfPivot(p, s)
	inverse, det, g := impl.InverseOf(p)
	sets, h := impl.RunChain(p, chain)
	return []reply{
		{"PivotOf", []any{of}, of.Den == 0 && len(of.Rows) == 0 && len(of.Side) == 0, a},
		{"IsWholePivot", []any{whole}, !whole, b},
		{"PivotedProblem", []any{pivoted}, isZeroProblem(pivoted), c},
		{"PivotMinor", []any{above, below}, above == 0 && below == 0, d},
		{"ComplementOf", []any{complement, den}, len(complement) == 0 && den == 0, e},
		{"SignsOfPivot", []any{signs}, len(signs) == 0, f},
	}, []reply{
		{"InverseOf", []any{inverse, det}, len(inverse) == 0 && det == 0, g},
		{"RunChain", []any{sets}, len(sets) == 0, h},
	}
}

func samePivots(a, b pivot) bool {
	return a.Den == b.Den && sameRows(a.Rows, b.Rows) && slices.Equal(a.Side, b.Side)
}

func sameProblems(p, q problem) bool {
	return sameRows(p.M, q.M) && slices.Equal(p.Q, q.Q)
}

func mustPivot(t *testing.T, p problem, s int64) pivot {
	t.Helper()
	result, code := impl.PivotOf(p, s)
	if code != impl.ErrNone || result.Den < 1 || len(result.Rows) != len(p.M) || len(result.Side) != len(p.M) {
		t.Fatalf("PivotOf(%v, %d) = %v, %d", p, s, result, code)
	}
	return result
}

// smallProblems returns the same problems at each call, of all sizes, with so small numbers that
// many minors are 1 or -1, and many are 0.
func smallProblems(count int) []problem {
	source := rand.New(rand.NewSource(8))
	list := []problem{}
	for i := range count {
		p := squareOf(i%impl.MaxSize+1, 0)
		for r := range p.M {
			p.Q[r] = source.Int63n(9) - 4
			for c := range p.M {
				p.M[r][c] = source.Int63n(3) - 1
			}
		}
		list = append(list, p)
	}
	return list
}

// greatProblem has the greatest determinant of all matrices of 5, and the greatest numbers of Q.
func greatProblem() problem {
	return problem{M: rowsOf(greatRows), Q: []int64{100, -100, 100, -100, 100}}
}

func TestPivotOf(t *testing.T) {
	for _, c := range []struct {
		text string
		s    int64
		den  int64
		rows string
		side []int64
	}{
		// The empty set: the problem.
		{"2,1;1,2/-5,-6", 0, 1, "2,1;1,2", []int64{-5, -6}},
		{"0/0", 0, 1, "0", []int64{0}},
		{"20,-20;-20,20/100,-100", 0, 1, "20,-20;-20,20", []int64{100, -100}},
		{"2,1;1,2/-5,-6", 1, 2, "1,-1;1,3", []int64{5, -7}},
		{"2,1;1,2/-5,-6", 2, 2, "3,1;-1,1", []int64{-4, 6}},
		{"2,1;1,2/-5,-6", 3, 3, "2,-1;-1,2", []int64{4, 7}},
		// Determinants and minors less than 0.
		{"-2/3", 1, 2, "-1", []int64{3}},
		{"2/3", 1, 2, "1", []int64{-3}},
		{"-20/-100", 1, 20, "-1", []int64{-100}},
		{"1,2;2,1/-1,-1", 3, 3, "-1,2;2,-1", []int64{1, 1}},
		{"-2,1;1,2/-5,-6", 1, 2, "-1,1;-1,5", []int64{-5, -17}},
		// Zeros on the diagonal: the rows have to be exchanged on the way.
		{"0,1;1,0/3,-4", 3, 1, "0,1;1,0", []int64{4, -3}},
		{"0,2;-3,0/1,5", 3, 6, "0,-2;3,0", []int64{10, -3}},
		{"0,1,0;0,0,1;1,0,0/1,2,3", 7, 1, "0,0,1;1,0,0;0,1,0", []int64{-3, -1, -2}},
		{"0,0,2;0,3,0;5,0,0/1,1,1", 7, 30, "0,0,6;0,10,0;15,0,0", []int64{-6, -10, -15}},
		{"0,0,1;7,8,9;1,0,0/2,3,4", 5, 1, "0,0,1;9,8,7;1,0,0", []int64{-4, -43, -2}},
		// The Den need not be in lowest terms.
		{"2,0;0,2/2,2", 3, 4, "2,0;0,2", []int64{-4, -4}},
		{"2,0;0,2/2,2", 1, 2, "1,0;0,4", []int64{-2, 4}},
		// A set without the first index.
		{"1,2,3;4,5,6;7,8,10/1,1,1", 6, 2, "-3,-4,3;2,10,-6;-3,-8,5", []int64{3, -4, 3}},
	} {
		p := mustParse(t, c.text)
		want := pivot{Den: c.den, Rows: rowsOf(c.rows), Side: c.side}
		if result, code := impl.PivotOf(p, c.s); !samePivots(result, want) || code != impl.ErrNone {
			t.Errorf("PivotOf(%q, %d) = %v, %d, want %v", c.text, c.s, result, code, want)
		}
	}
}

// TestPivotsOfGreatNumbers has the greatest determinant there is: 48 times 20 to the power of 5.
func TestPivotsOfGreatNumbers(t *testing.T) {
	p := greatProblem()
	result := mustPivot(t, p, 31)
	if result.Den != 153600000 {
		t.Errorf("Den = %d", result.Den)
	}
	checkPivot(t, p, 31, result)
	inverse, det, code := impl.InverseOf(p)
	if !sameRows(inverse, result.Rows) || det != 153600000 || code != impl.ErrNone {
		t.Errorf("InverseOf = %v, %d, %d", inverse, det, code)
	}
}

// checkPivot looks whether a pivot tells the inner numbers by the outer ones, at as many places as
// there are numbers to tell in a row.
func checkPivot(t *testing.T, p problem, s int64, result pivot) {
	t.Helper()
	z := make([]int64, len(p.M))
	for place := range len(p.M) + 1 {
		clear(z)
		if place > 0 {
			z[place-1] = int64(3 + place)
		}
		inner, outer := sidesAt(p, s, z)
		for i := range inner {
			sum := result.Side[i]
			for k := range outer {
				sum += result.Rows[i][k] * outer[k]
			}
			if sum != result.Den*inner[i] {
				t.Errorf("PivotOf(%v, %d) = %v, but at %v the inner number %d is %d", p, s, result, z, i, inner[i])
			}
		}
	}
}

// sidesAt returns the inner and outer numbers of a set at z.
func sidesAt(p problem, s int64, z []int64) ([]int64, []int64) {
	inner, outer := slices.Clone(p.Q), slices.Clone(z)
	for i := range z {
		for k := range z {
			inner[i] += p.M[i][k] * z[k]
		}
		if s>>i&1 == 1 {
			inner[i], outer[i] = outer[i], inner[i]
		}
	}
	return inner, outer
}

// TestPivotsAgainstExactOnes looks at all sets: the pivot, its Den, and what else is told of it.
func TestPivotsAgainstExactOnes(t *testing.T) {
	basic, others := [6]int{}, [6]int{}
	for _, p := range append(append(someProblems(200), smallProblems(200)...), greatProblem()) {
		for _, s := range allSets(len(p.M)) {
			det := expanded(exactColumns(p, s))
			if det == 0 {
				others[len(p.M)]++
				checkNotBasic(t, p, s)
				continue
			}
			basic[len(p.M)]++
			result := mustPivot(t, p, s)
			if result.Den != max(det, -det) {
				t.Errorf("PivotOf(%v, %d) = %v, but the determinant is %d", p, s, result, det)
			}
			checkPivot(t, p, s, result)
			checkWhatGoesWith(t, p, s, result)
		}
	}
	if slices.Min(basic[1:]) < 30 || slices.Min(others[1:]) < 10 {
		t.Errorf("only %v basic sets, %v others", basic[1:], others[1:])
	}
}

// exactColumns returns the columns of a set.
func exactColumns(p problem, s int64) rows {
	result := squareOf(len(p.M), 0).M
	for i := range result {
		result[i][i] = 1
		for k := range result {
			if s>>k&1 == 1 {
				result[i][k] = -p.M[i][k]
			}
		}
	}
	return result
}

func checkNotBasic(t *testing.T, p problem, s int64) {
	t.Helper()
	what := "of the set " + strconv.FormatInt(s, 10) + ", not basic"
	answers, _ := callPivots(p, s, 0, nil)
	for _, answer := range answers {
		want := int64(impl.ErrState)
		if answer.name == "ComplementOf" && s == 1<<len(p.M)-1 {
			want = impl.ErrRange
		}
		checkRefused(t, what, []reply{answer}, want)
	}
}

// checkWhatGoesWith looks at the signs, at the complement, and at the pivoted problem of a pivot.
func checkWhatGoesWith(t *testing.T, p problem, s int64, result pivot) {
	t.Helper()
	whole, pivoted, signs := true, problem{}, rows{}
	for i, row := range result.Rows {
		line, quotients := []int64{}, []int64{}
		for _, x := range append(slices.Clone(row), result.Side[i]) {
			line = append(line, int64(cmp.Compare(x, 0)))
			quotients = append(quotients, x/result.Den)
			whole = whole && x%result.Den == 0
		}
		signs = append(signs, line)
		pivoted.M = append(pivoted.M, quotients[:len(row)])
		pivoted.Q = append(pivoted.Q, quotients[len(row)])
	}
	if got, code := impl.SignsOfPivot(p, s); !sameRows(got, signs) || code != impl.ErrNone {
		t.Errorf("SignsOfPivot(%v, %d) = %v, %d, want %v", p, s, got, code, signs)
	}
	if got, code := impl.IsWholePivot(p, s); got != whole || code != impl.ErrNone {
		t.Errorf("IsWholePivot(%v, %d) = %v, %d", p, s, got, code)
	}
	want := int64(impl.ErrNone)
	switch {
	case !whole:
		pivoted, want = problem{}, impl.ErrState
	case !impl.IsProblem(pivoted):
		pivoted, want = problem{}, impl.ErrLimit
	}
	if got, code := impl.PivotedProblem(p, s); !sameProblems(got, pivoted) || code != want {
		t.Errorf("PivotedProblem(%v, %d) = %v, %d, want %v, %d", p, s, got, code, pivoted, want)
	}
	outside := 1<<len(p.M) - 1 - s
	complement, den, want := chosen(result.Rows, outside, outside), result.Den, impl.ErrNone
	if outside == 0 {
		complement, den, want = nil, 0, impl.ErrRange
	}
	if got, by, code := impl.ComplementOf(p, s); !sameRows(got, complement) || by != den || code != want {
		t.Errorf("ComplementOf(%v, %d) = %v, %d, %d, want %v, %d", p, s, got, by, code, complement, den)
	}
}

func TestSetsThatAreNotBasic(t *testing.T) {
	for _, c := range []struct {
		text string
		sets []int64
	}{
		{"0/1", []int64{1}},
		{"0,1;1,0/0,0", []int64{1, 2}},
		{"1,1;1,1/-1,-1", []int64{3}},
		{"0,0;0,0/0,0", []int64{1, 2, 3}},
		{"1,2;2,4/1,1", []int64{3}},
		{"20,20;20,20/100,-100", []int64{3}},
		{"1,2,3;4,5,6;7,8,9/1,2,3", []int64{7}},
		{"0,1,0;0,0,1;1,0,0/1,2,3", []int64{1, 2, 3, 4, 5, 6}},
	} {
		p := mustParse(t, c.text)
		for _, s := range allSets(len(p.M)) {
			if slices.Contains(c.sets, s) {
				checkNotBasic(t, p, s)
			} else {
				checkPivot(t, p, s, mustPivot(t, p, s))
			}
		}
	}
}

func TestPivotSetsOutOfRange(t *testing.T) {
	for n := 1; n <= impl.MaxSize; n++ {
		for _, x := range []int64{0, 1} {
			p := squareOf(n, x)
			for _, s := range []int64{-1, -2, 1 << n, 1<<n + 1, 63, 64, 1 << 32, 1 << 62, leastInt, leastInt + 1, greatestInt} {
				answers, _ := callPivots(p, s, 0, nil)
				checkRefused(t, "a set out of range", answers, impl.ErrRange)
				above, below, code := impl.PivotMinor(p, 0, s)
				if above != 0 || below != 0 || code != impl.ErrRange {
					t.Errorf("PivotMinor(size %d, 0, %d) = %d, %d, %d", n, s, above, below, code)
				}
				above, below, code = impl.PivotMinor(p, s, s)
				if above != 0 || below != 0 || code != impl.ErrRange {
					t.Errorf("PivotMinor(size %d, %d, %d) = %d, %d, %d", n, s, s, above, below, code)
				}
			}
		}
	}
}

// TestPivotsOfInvalidProblems gives other arguments that are wrong too: ErrInvalid comes first.
func TestPivotsOfInvalidProblems(t *testing.T) {
	invalid := invalidProblems()
	invalid["size 70"] = squareOf(70, 1)
	for name, p := range invalid {
		for _, s := range []int64{0, 1, 3, 31, -1, 64, leastInt, greatestInt} {
			for _, chain := range [][]int64{nil, {}, {0}, {s}, make([]int64, 21)} {
				withSet, without := callPivots(p, s, s, chain)
				checkRefused(t, name, append(withSet, without...), impl.ErrInvalid)
			}
		}
	}
}

func TestWholePivots(t *testing.T) {
	for _, c := range []struct {
		text string
		s    int64
		want string
		code int64
	}{
		{"2,1;1,2/-5,-6", 0, "2,1;1,2/-5,-6", impl.ErrNone},
		{"1/7", 1, "1/-7", impl.ErrNone},
		{"-1/7", 1, "-1/7", impl.ErrNone},
		{"1,1;2,3/1,2", 3, "3,-1;-2,1/-1,0", impl.ErrNone},
		{"0,1;1,0/3,-4", 3, "0,1;1,0/4,-3", impl.ErrNone},
		{"1,2;3,4/5,6", 1, "1,-2;3,-2/-5,-9", impl.ErrNone},
		{"-1,2;3,4/5,6", 1, "-1,2;-3,10/5,21", impl.ErrNone},
		{"5,2,0;3,1,1;0,4,2/1,2,3", 2, "-1,2,-2;-3,1,-1;-12,4,-2/-3,-2,-5", impl.ErrNone},
		// Den misses one number of the Rows alone, at each place.
		{"2,0;0,0/2,4", 1, "", impl.ErrState},
		{"2,0;0,1/0,0", 3, "", impl.ErrState},
		{"1,0;0,2/0,0", 3, "", impl.ErrState},
		{"0,2;1,0/0,0", 3, "", impl.ErrState},
		{"0,1;2,0/0,0", 3, "", impl.ErrState},
		{"-2/2", 1, "", impl.ErrState},
		{"1,0,0;0,1,0;0,0,-2/2,2,2", 7, "", impl.ErrState},
		// Or a number of Side too, or most numbers.
		{"2/1", 1, "", impl.ErrState},
		{"2,1;1,2/-5,-6", 3, "", impl.ErrState},
		{"20,19;17,18/100,99", 1, "", impl.ErrState},
	} {
		p := mustParse(t, c.text)
		if whole, code := impl.IsWholePivot(p, c.s); whole != (c.code == impl.ErrNone) || code != impl.ErrNone {
			t.Errorf("IsWholePivot(%q, %d) = %v, %d", c.text, c.s, whole, code)
		}
		want := problem{}
		if c.code == impl.ErrNone {
			want = mustParse(t, c.want)
		}
		if q, code := impl.PivotedProblem(p, c.s); !sameProblems(q, want) || code != c.code {
			t.Errorf("PivotedProblem(%q, %d) = %v, %d", c.text, c.s, q, code)
		}
	}
}

// TestPivotedLimits has pivoted problems with one number at a limit, and beyond it by one.
func TestPivotedLimits(t *testing.T) {
	for _, c := range []struct {
		text string
		s    int64
		want string
		code int64
	}{
		{"1,1;20,0/0,0", 1, "1,-1;20,-20/0,0", impl.ErrNone},
		{"1,1;20,-1/0,0", 1, "", impl.ErrLimit},
		{"1,-1;20,0/0,0", 1, "1,1;20,20/0,0", impl.ErrNone},
		{"1,-1;20,1/0,0", 1, "", impl.ErrLimit},
		{"0,20;1,1/0,0", 2, "-20,20;-1,1/0,0", impl.ErrNone},
		{"-1,20;1,1/0,0", 2, "", impl.ErrLimit},
		{"1,0;20,0/5,0", 1, "1,0;20,0/-5,-100", impl.ErrNone},
		{"1,0;20,0/5,-1", 1, "", impl.ErrLimit},
		{"1,0;20,0/-5,0", 1, "1,0;20,0/5,100", impl.ErrNone},
		{"1,0;20,0/-5,1", 1, "", impl.ErrLimit},
		{"1,0;20,0/100,0", 1, "", impl.ErrLimit},
		// The inverse alone is beyond.
		{"1,7;3,20/0,0", 3, "-20,7;3,-1/0,0", impl.ErrNone},
		{"1,4,0;0,1,5;0,0,1/0,0,0", 7, "1,-4,20;0,1,-5;0,0,1/0,0,0", impl.ErrNone},
		{"1,3,0;0,1,7;0,0,1/0,0,0", 7, "", impl.ErrLimit},
		// Far beyond, and not whole: ErrState comes first.
		{"1,20;20,20/100,100", 1, "", impl.ErrLimit},
		{"2,20;20,20/100,100", 1, "", impl.ErrState},
		{"20,20;20,19/100,-100", 3, "", impl.ErrState},
	} {
		p := mustParse(t, c.text)
		want := problem{}
		if c.code == impl.ErrNone {
			want = mustParse(t, c.want)
		}
		if q, code := impl.PivotedProblem(p, c.s); !sameProblems(q, want) || code != c.code {
			t.Errorf("PivotedProblem(%q, %d) = %v, %d", c.text, c.s, q, code)
		}
		// The pivot itself has no limits.
		checkPivot(t, p, c.s, mustPivot(t, p, c.s))
		if whole, code := impl.IsWholePivot(p, c.s); whole != (c.code != impl.ErrState) || code != impl.ErrNone {
			t.Errorf("IsWholePivot(%q, %d) = %v, %d", c.text, c.s, whole, code)
		}
	}
}

// TestPivotedBack is promise 4, with the pivots by two sets one after the other, which are those by
// what just one of both has.
func TestPivotedBack(t *testing.T) {
	back, further := [6]int{}, 0
	for _, p := range append(smallProblems(400), someProblems(300)...) {
		for _, s := range allSets(len(p.M)) {
			q, code := impl.PivotedProblem(p, s)
			if code != impl.ErrNone {
				continue
			}
			if again, code := impl.PivotedProblem(q, s); !sameProblems(again, p) || code != impl.ErrNone {
				t.Errorf("PivotedProblem(%v, %d) = %v, but back it is %v, %d", p, s, q, again, code)
			}
			if s == 0 && !sameProblems(q, p) {
				t.Errorf("PivotedProblem(%v, 0) = %v", p, q)
			}
			if s > 0 {
				back[len(p.M)]++
			}
			for _, other := range allSets(len(p.M)) {
				first, a := impl.PivotedProblem(q, other)
				second, b := impl.PivotedProblem(p, s^other)
				if !sameProblems(first, second) || a != b {
					t.Errorf("by %d and %d, %v becomes %v, %d, but by both %v, %d", s, other, p, first, a, second, b)
				}
				if s > 0 && other > 0 && s != other && a == impl.ErrNone {
					further++
				}
			}
		}
	}
	if slices.Min(back[1:]) < 50 || further < 1000 {
		t.Errorf("only %v pivots back, %d by two sets", back[1:], further)
	}
}

// TestPivotedProblemsTellTheSame has the pivoted problem at once as a problem of its own: its z and w
// are the outer and the inner numbers.
func TestPivotedProblemsTellTheSame(t *testing.T) {
	source := rand.New(rand.NewSource(9))
	count := 0
	for _, p := range smallProblems(400) {
		for _, s := range allSets(len(p.M)) {
			q, code := impl.PivotedProblem(p, s)
			if code != impl.ErrNone {
				continue
			}
			count++
			z := []int64{}
			for range p.M {
				z = append(z, source.Int63n(21)-10)
			}
			inner, outer := sidesAt(p, s, z)
			if w, _ := sidesAt(q, 0, outer); !slices.Equal(w, inner) {
				t.Errorf("PivotedProblem(%v, %d) = %v, but at %v the inner numbers are %v", p, s, q, z, inner)
			}
		}
	}
	if count < 1000 {
		t.Errorf("only %d pivots", count)
	}
}

func TestInverseOf(t *testing.T) {
	for _, c := range []struct {
		text    string
		inverse string
		det     int64
	}{
		{"2,1;1,2/-5,-6", "2,-1;-1,2", 3},
		{"1/0", "1", 1},
		{"-20/0", "-1", 20},
		{"1,2;3,4/1,1", "-4,2;3,-1", 2},
		{"0,1;1,0/1,1", "0,1;1,0", 1},
		{"0,1,0;0,0,1;1,0,0/1,2,3", "0,0,1;1,0,0;0,1,0", 1},
		{"1,2,3;4,5,6;7,8,10/1,1,1", "-2,-4,3;-2,11,-6;3,-6,3", 3},
		{"2,0,0;0,-2,0;0,0,2/1,1,1", "4,0,0;0,-4,0;0,0,4", 8},
	} {
		p := mustParse(t, c.text)
		if inverse, det, code := impl.InverseOf(p); !sameRows(inverse, rowsOf(c.inverse)) || det != c.det || code != impl.ErrNone {
			t.Errorf("InverseOf(%q) = %v, %d, %d", c.text, inverse, det, code)
		}
	}
	for _, text := range []string{"0/1", "0,0;0,0/1,1", "1,2;2,4/1,1", "0,1;0,1/0,0", "1,2,3;4,5,6;7,8,9/1,2,3", "20,20;20,20/100,-100"} {
		_, without := callPivots(mustParse(t, text), 0, 0, []int64{-1})
		checkRefused(t, text, without[:1], impl.ErrState)
	}
}

// TestInversesArePivots is promise 4: inverses are pivots of the whole set, and they are inverses.
func TestInversesArePivots(t *testing.T) {
	found, none := [6]int{}, 0
	for _, p := range append(append(someProblems(300), smallProblems(300)...), greatProblem()) {
		whole := int64(1)<<len(p.M) - 1
		result, a := impl.PivotOf(p, whole)
		inverse, det, b := impl.InverseOf(p)
		if !sameRows(inverse, result.Rows) || det != result.Den || a != b {
			t.Errorf("InverseOf(%v) = %v, %d, %d, but PivotOf is %v, %d", p, inverse, det, b, result, a)
		}
		minor := laplace(p.M)
		if det != max(minor, -minor) || b == impl.ErrNone != (minor != 0) {
			t.Errorf("InverseOf(%v): %d, %d, but the determinant is %d", p, det, b, minor)
		}
		if minor == 0 {
			none++
			continue
		}
		found[len(p.M)]++
		for i := range p.M {
			for k := range p.M {
				left, right, want := int64(0), int64(0), int64(0)
				for j := range p.M {
					left += inverse[i][j] * p.M[j][k]
					right += p.M[i][j] * inverse[j][k]
				}
				if i == k {
					want = det
				}
				if left != want || right != want {
					t.Errorf("InverseOf(%v) = %v: the products at %d, %d are %d and %d", p, inverse, i, k, left, right)
				}
			}
		}
	}
	if slices.Min(found[1:]) < 50 || none < 50 {
		t.Errorf("only %v inverses, %d without", found[1:], none)
	}
}

func TestPivotMinor(t *testing.T) {
	const three = "1,2,3;4,5,6;7,8,10/1,1,1"
	for _, c := range []struct {
		text               string
		s, other           int64
		above, below, code int64
	}{
		{"2,1;1,2/-5,-6", 1, 2, 3, 2, impl.ErrNone},
		{"2,1;1,2/-5,-6", 1, 1, 1, 2, impl.ErrNone},
		{"2,1;1,2/-5,-6", 1, 3, 2, 2, impl.ErrNone},
		{"2,1;1,2/-5,-6", 0, 0, 1, 1, impl.ErrNone},
		{"2,1;1,2/-5,-6", 0, 3, 3, 1, impl.ErrNone},
		{"2,1;1,2/-5,-6", 3, 0, 3, 3, impl.ErrNone},
		{"2,1;1,2/-5,-6", 3, 3, 1, 3, impl.ErrNone},
		// Minors less than 0 stay so, whatever the sign of the columns of s is.
		{"-7/0", 1, 1, 1, -7, impl.ErrNone},
		{"-7/0", 0, 1, -7, 1, impl.ErrNone},
		{"1,2;3,4/0,0", 3, 1, 4, -2, impl.ErrNone},
		{"1,2;3,4/0,0", 1, 2, -2, 1, impl.ErrNone},
		{three, 5, 6, -3, -11, impl.ErrNone},
		{three, 5, 7, 5, -11, impl.ErrNone},
		{three, 6, 1, -3, 2, impl.ErrNone},
		{three, 7, 2, -11, -3, impl.ErrNone},
		// The first one may be 0; it is s that has to be basic.
		{"0/0", 0, 1, 0, 1, impl.ErrNone},
		{"0,1;1,0/0,0", 3, 1, 0, -1, impl.ErrNone},
		{"0,1;1,0/0,0", 1, 2, 0, 0, impl.ErrState},
		{"0/0", 1, 1, 0, 0, impl.ErrState},
		{"1,1;1,1/0,0", 3, 3, 0, 0, impl.ErrState},
		{greatRows + "/1,1,1,1,1", 31, 0, 153600000, 153600000, impl.ErrNone},
		{greatRows + "/1,1,1,1,1", 30, 31, -20, -2560000, impl.ErrNone},
		// A second set out of range, also beside a first one that is not basic, or is none.
		{"2,1;1,2/-5,-6", 1, 4, 0, 0, impl.ErrRange},
		{"2,1;1,2/-5,-6", 1, -1, 0, 0, impl.ErrRange},
		{"2,1;1,2/-5,-6", 4, 1, 0, 0, impl.ErrRange},
		{"2,1;1,2/-5,-6", 4, 4, 0, 0, impl.ErrRange},
		{"2,1;1,2/-5,-6", 5, 4, 0, 0, impl.ErrRange},
		{"0/0", 1, 2, 0, 0, impl.ErrRange},
		{"0,1;1,0/0,0", 1, leastInt, 0, 0, impl.ErrRange},
		{"0,1;1,0/0,0", leastInt, leastInt, 0, 0, impl.ErrRange},
		{"0,1;1,0/0,0", greatestInt, greatestInt, 0, 0, impl.ErrRange},
	} {
		p := mustParse(t, c.text)
		above, below, code := impl.PivotMinor(p, c.s, c.other)
		if above != c.above || below != c.below || code != c.code {
			t.Errorf("PivotMinor(%q, %d, %d) = %d, %d, %d", c.text, c.s, c.other, above, below, code)
		}
	}
}

// bigMinor develops the determinant of the rows and columns that a set has by its first row.
func bigMinor(m rows, s int64) *big.Int {
	part := chosen(m, s, s)
	wide := [][]*big.Int{}
	for _, row := range part {
		list := []*big.Int{}
		for _, x := range row {
			list = append(list, big.NewInt(x))
		}
		wide = append(wide, list)
	}
	return bigDeterminant(wide)
}

func bigDeterminant(m [][]*big.Int) *big.Int {
	if len(m) == 0 {
		return big.NewInt(1)
	}
	sum := new(big.Int)
	for c, x := range m[0] {
		rest := [][]*big.Int{}
		for _, row := range m[1:] {
			rest = append(rest, slices.Delete(slices.Clone(row), c, c+1))
		}
		product := bigDeterminant(rest)
		product.Mul(product, x)
		if c%2 == 1 {
			product.Neg(product)
		}
		sum.Add(sum, product)
	}
	return sum
}

// TestMinorsOfPivots is promise 13: the quotient is the minor of the Rows, each divided by Den.
func TestMinorsOfPivots(t *testing.T) {
	basic := [6]int{}
	for _, p := range append(append(someProblems(60), smallProblems(100)...), greatProblem()) {
		minors, code := impl.MinorsOf(p.M)
		if code != impl.ErrNone {
			t.Fatalf("MinorsOf(%v): code %d", p.M, code)
		}
		for _, s := range allSets(len(p.M)) {
			if minors[s] == 0 {
				continue
			}
			basic[len(p.M)]++
			result := mustPivot(t, p, s)
			for _, other := range allSets(len(p.M)) {
				above, below, code := impl.PivotMinor(p, s, other)
				if above != minors[s^other] || below != minors[s] || code != impl.ErrNone {
					t.Errorf("PivotMinor(%v, %d, %d) = %d, %d, %d, but the minors are %v", p, s, other, above, below, code, minors)
				}
				left := new(big.Int).Mul(bigMinor(result.Rows, other), big.NewInt(below))
				right := new(big.Int).Exp(big.NewInt(result.Den), big.NewInt(int64(countOf(other))), nil)
				if right.Mul(right, big.NewInt(above)); left.Cmp(right) != 0 {
					t.Errorf("PivotMinor(%v, %d, %d) = %d, %d, but the pivot is %v", p, s, other, above, below, result)
				}
			}
		}
	}
	if slices.Min(basic[1:]) < 30 {
		t.Errorf("only %v basic sets", basic[1:])
	}
}

// TestMinorsOfPivotedProblems is promise 13 for the matrices of pivoted problems, with chapter 3.
func TestMinorsOfPivotedProblems(t *testing.T) {
	count, negative := 0, 0
	for _, p := range smallProblems(300) {
		for _, s := range allSets(len(p.M)) {
			q, code := impl.PivotedProblem(p, s)
			if code != impl.ErrNone {
				continue
			}
			for _, other := range allSets(len(p.M)) {
				minor, a := impl.MinorOf(q.M, other)
				above, below, b := impl.PivotMinor(p, s, other)
				if a != impl.ErrNone || b != impl.ErrNone || minor*below != above {
					t.Errorf("PivotMinor(%v, %d, %d) = %d, %d, %d, but the minor is %d, %d", p, s, other, above, below, b, minor, a)
				}
				if s > 0 && other > 0 && minor != 0 {
					count++
				}
				if minor < 0 && below < 0 {
					negative++
				}
			}
		}
	}
	if count < 1000 || negative < 100 {
		t.Errorf("only %d minors, %d less than 0", count, negative)
	}
}

func TestComplementOf(t *testing.T) {
	const three = "1,2,3;4,5,6;7,8,10/1,1,1"
	for _, c := range []struct {
		text      string
		s         int64
		want      string
		den, code int64
	}{
		{"2,1;1,2/-5,-6", 1, "3", 2, impl.ErrNone},
		{"2,1;1,2/-5,-6", 2, "3", 2, impl.ErrNone},
		// The empty set: the matrix.
		{"2,1;1,2/-5,-6", 0, "2,1;1,2", 1, impl.ErrNone},
		{"-7/5", 0, "-7", 1, impl.ErrNone},
		{three, 0, "1,2,3;4,5,6;7,8,10", 1, impl.ErrNone},
		// Sets that lack one index.
		{three, 3, "3", 3, impl.ErrNone},
		{three, 5, "3", 11, impl.ErrNone},
		{three, 6, "-3", 2, impl.ErrNone},
		// Rows and columns in their order.
		{three, 1, "-3,-6;-6,-11", 1, impl.ErrNone},
		{three, 2, "-3,3;3,2", 5, impl.ErrNone},
		{three, 4, "-11,-4;-2,2", 10, impl.ErrNone},
		{"-2,1;1,2/-5,-6", 1, "5", 2, impl.ErrNone},
		{"0,1,1;1,0,1;1,1,0/1,1,1", 3, "-2", 1, impl.ErrNone},
		// A set with all indices, also one that is not basic.
		{"2,1;1,2/-5,-6", 3, "", 0, impl.ErrRange},
		{"1/1", 1, "", 0, impl.ErrRange},
		{"0/1", 1, "", 0, impl.ErrRange},
		{"1,1;1,1/1,1", 3, "", 0, impl.ErrRange},
		{three, 7, "", 0, impl.ErrRange},
		{three, 8, "", 0, impl.ErrRange},
		{three, 15, "", 0, impl.ErrRange},
		{three, -1, "", 0, impl.ErrRange},
		{"0,1;1,0/1,1", 1, "", 0, impl.ErrState},
		{"0,0;0,0/1,1", 2, "", 0, impl.ErrState},
		{"1,1,0;1,1,0;0,0,1/1,1,1", 3, "", 0, impl.ErrState},
	} {
		want := rows{}
		if c.code == impl.ErrNone {
			want = rowsOf(c.want)
		}
		if complement, den, code := impl.ComplementOf(mustParse(t, c.text), c.s); !sameRows(complement, want) || den != c.den || code != c.code {
			t.Errorf("ComplementOf(%q, %d) = %v, %d, %d", c.text, c.s, complement, den, code)
		}
	}
}

// TestComplementsHaveMinors: the determinant of a complement, with its Den, is that of M by the
// minor of s.
func TestComplementsHaveMinors(t *testing.T) {
	for _, p := range append(someProblems(100), smallProblems(100)...) {
		whole := int64(1)<<len(p.M) - 1
		for _, s := range allSets(len(p.M))[:whole] {
			complement, den, code := impl.ComplementOf(p, s)
			if code != impl.ErrNone {
				continue
			}
			outside := int64(1)<<len(complement) - 1
			left := new(big.Int).Mul(bigMinor(complement, outside), bigMinor(p.M, s))
			right := new(big.Int).Exp(big.NewInt(den), big.NewInt(int64(len(complement))), nil)
			if right.Mul(right, bigMinor(p.M, whole)); left.Cmp(right) != 0 {
				t.Errorf("ComplementOf(%v, %d) = %v, %d", p, s, complement, den)
			}
		}
	}
}

func TestRunChain(t *testing.T) {
	zeros := func(n int) []int64 { return make([]int64, n) }
	turns := []int64{0}
	for i := range 20 {
		turns = append(turns, int64(1-i%2))
	}
	for _, c := range []struct {
		text        string
		chain, want []int64
		code        int64
	}{
		{"2,1;1,2/-5,-6", []int64{0, 1, 0}, []int64{0, 1, 3, 2}, impl.ErrNone},
		{"2,1;1,2/-5,-6", nil, []int64{0}, impl.ErrNone},
		{"2,1;1,2/-5,-6", []int64{}, []int64{0}, impl.ErrNone},
		{"0/0", nil, []int64{0}, impl.ErrNone},
		// An index exchanged back.
		{"2,1;1,2/-5,-6", []int64{1, 1}, []int64{0, 2, 0}, impl.ErrNone},
		{"2,1;1,2/-5,-6", []int64{0, 1, 1, 0, 1}, []int64{0, 1, 3, 1, 0, 2}, impl.ErrNone},
		{"2,1,1,1,1;1,2,1,1,1;1,1,2,1,1;1,1,1,2,1;1,1,1,1,2/0,0,0,0,0", []int64{4, 0, 3, 1, 2}, []int64{0, 16, 17, 25, 27, 31}, impl.ErrNone},
		// The limit.
		{"1/0", zeros(20), turns, impl.ErrNone},
		{"1/0", zeros(21), nil, impl.ErrRange},
		{"0/0", zeros(21), nil, impl.ErrRange},
		{"1/0", zeros(1000), nil, impl.ErrRange},
		// Indices out of range, also behind a set that is not basic.
		{"1/0", []int64{1}, nil, impl.ErrRange},
		{"1/0", []int64{-1}, nil, impl.ErrRange},
		{"1/0", []int64{0, 0, 1}, nil, impl.ErrRange},
		{"0/0", []int64{0, 1}, nil, impl.ErrRange},
		{"0,1;1,0/0,0", []int64{0, 1, -1}, nil, impl.ErrRange},
		{"2,1;1,2/-5,-6", []int64{0, 2}, nil, impl.ErrRange},
		{"2,1;1,2/-5,-6", []int64{64}, nil, impl.ErrRange},
		{"2,1;1,2/-5,-6", []int64{leastInt}, nil, impl.ErrRange},
		{"2,1;1,2/-5,-6", []int64{greatestInt}, nil, impl.ErrRange},
		{greatRows + "/1,1,1,1,1", []int64{5}, nil, impl.ErrRange},
		// Sets that are not basic: the first one, the last one, and one on the way.
		{"0/0", []int64{0}, nil, impl.ErrState},
		{"0/0", zeros(20), nil, impl.ErrState},
		{"0,1;1,0/0,0", []int64{0, 1}, nil, impl.ErrState},
		{"0,1;1,0/0,0", []int64{1, 0}, nil, impl.ErrState},
		{"1,1;1,1/0,0", []int64{0, 1}, nil, impl.ErrState},
		{"1,1;1,1/0,0", []int64{0, 1, 0}, nil, impl.ErrState},
		{"1,1;1,1/0,0", []int64{0, 0, 1, 1}, []int64{0, 1, 0, 2, 0}, impl.ErrNone},
		{"1,1,0;1,1,0;0,0,1/0,0,0", []int64{2, 0, 1, 2}, nil, impl.ErrState},
		{"1,1,0;1,1,0;0,0,1/0,0,0", []int64{2, 0, 0, 1}, []int64{0, 4, 5, 4, 6}, impl.ErrNone},
	} {
		if sets, code := impl.RunChain(mustParse(t, c.text), c.chain); !slices.Equal(sets, c.want) || code != c.code {
			t.Errorf("RunChain(%q, %v) = %v, %d", c.text, c.chain, sets, code)
		}
	}
}

func TestChainsAgainstExactOnes(t *testing.T) {
	source := rand.New(rand.NewSource(10))
	found, none := 0, 0
	for i, p := range append(someProblems(300), smallProblems(600)...) {
		chain := []int64{}
		for range i % 21 {
			chain = append(chain, source.Int63n(int64(len(p.M))))
		}
		s, want, code := int64(0), []int64{0}, int64(impl.ErrNone)
		for _, index := range chain {
			s ^= 1 << index
			want = append(want, s)
			if exactPoint(p, s) == nil {
				code = impl.ErrState
			}
		}
		if code != impl.ErrNone {
			want = nil
			none++
		} else {
			found++
		}
		if sets, got := impl.RunChain(p, chain); !slices.Equal(sets, want) || got != code {
			t.Errorf("RunChain(%v, %v) = %v, %d, want %v, %d", p, chain, sets, got, want, code)
		}
	}
	if found < 200 || none < 200 {
		t.Errorf("only %d chains, %d not", found, none)
	}
}

func TestSignsOfPivot(t *testing.T) {
	for _, c := range []struct {
		text string
		s    int64
		want string
	}{
		{"2,1;1,2/-5,-6", 0, "1,1,-1;1,1,-1"},
		{"2,1;1,2/-5,-6", 1, "1,-1,1;1,1,-1"},
		{"2,1;1,2/-5,-6", 3, "1,-1,1;-1,1,1"},
		{"0/0", 0, "0,0"},
		{"-3/0", 1, "-1,0"},
		{"1,0;5,0/0,-7", 1, "1,0,0;1,0,-1"},
		{"0,1;1,0/3,-4", 3, "0,1,1;1,0,-1"},
		{"20,-20;0,20/100,-100", 0, "1,-1,1;0,1,-1"},
	} {
		if signs, code := impl.SignsOfPivot(mustParse(t, c.text), c.s); !sameRows(signs, rowsOf(c.want)) || code != impl.ErrNone {
			t.Errorf("SignsOfPivot(%q, %d) = %v, %d", c.text, c.s, signs, code)
		}
	}
}

// TestPivotCallsLeaveNothing: no argument is changed, and each call tells the same once more, also
// behind calls that end with errors.
func TestPivotCallsLeaveNothing(t *testing.T) {
	p, same := guardedProblem(mustParse(t, "0,1,2;1,1,4;-2,5,6/1,-2,3"))
	chain, sameChain := guarded([]int64{1, 0, 2}, 44)
	call := func() []reply {
		list := []reply{}
		for s := int64(-1); s <= 8; s++ {
			withSet, without := callPivots(p, s, 7-s, chain)
			list = append(append(list, withSet...), without...)
		}
		return list
	}
	first := call()
	callPivots(mustParse(t, "0,1;1,0/0,0"), 1, 2, []int64{0})
	callPivots(problem{}, 1, 2, []int64{0})
	if again := call(); !reflect.DeepEqual(first, again) {
		t.Errorf("results = %v, then %v", first, again)
	}
	if !same() || !sameChain() {
		t.Errorf("an argument has been changed")
	}
}

// TestPivotResultsAreNew writes into results, and looks at their neighbours, at the arguments and at
// the next results.
func TestPivotResultsAreNew(t *testing.T) {
	const text = "1,1,0;2,3,1;0,0,1/1,2,3"
	p, chain := mustParse(t, text), []int64{0, 1, 0}
	for name, f := range map[string]func(s int64) rows{
		"PivotOf": func(s int64) rows {
			result, _ := impl.PivotOf(p, s)
			return append(result.Rows, result.Side)
		},
		"PivotedProblem": func(s int64) rows {
			result, _ := impl.PivotedProblem(p, s)
			return append(result.M, result.Q)
		},
		"ComplementOf": func(s int64) rows {
			result, _, _ := impl.ComplementOf(p, s)
			return result
		},
		"InverseOf": func(int64) rows {
			result, _, _ := impl.InverseOf(p)
			return result
		},
		"SignsOfPivot": func(s int64) rows {
			result, _ := impl.SignsOfPivot(p, s)
			return result
		},
		"RunChain": func(int64) rows {
			result, _ := impl.RunChain(p, chain)
			return rows{result}
		},
	} {
		for _, s := range []int64{0, 1, 3} {
			first := f(s)
			want := rows{}
			for _, row := range first {
				want = append(want, slices.Clone(row))
			}
			if len(first) == 0 {
				t.Fatalf("%s of %d has nothing", name, s)
			}
			spoilRows(t, name, append(first, f(s)...))
			first[0] = nil
			if third := f(s); !sameRows(third, want) || !reflect.DeepEqual(p, mustParse(t, text)) || !slices.Equal(chain, []int64{0, 1, 0}) {
				t.Errorf("%s of %d = %v, then %v, of %v, %v", name, s, want, third, p, chain)
			}
		}
	}
}
