package tests

import (
	"math/big"
	"math/rand"
	"reflect"
	"slices"
	"strings"
	"testing"

	"loop.example/g01343/impl"
)

// solutionCase tells everything of a problem that chapter 2 tells without further arguments.
// Solutions have ";" between them; least is empty where there is none.
type solutionCase struct {
	text            string
	basic, feasible []int64
	solutions       string
	degenerate      bool
	least           string
}

func solutionCases() []solutionCase {
	all := func(n int) []int64 { return allSets(n) }
	return []solutionCase{
		{"2,1;1,2/-5,-6", all(2), []int64{3}, "4/3 7/3", false, "4/3 7/3"},
		{"2,1;1,2/5,6", all(2), []int64{0}, "0 0", false, "0 0"},
		// Without a feasible set: all sets basic, or not.
		{"-1/-1", all(1), nil, "", false, ""},
		{"0/-1", []int64{0}, nil, "", false, ""},
		{"0,1;-1,0/0,-1", []int64{0, 3}, nil, "", true, ""},
		{"0/1", []int64{0}, []int64{0}, "0", false, "0"},
		{"0/0", []int64{0}, []int64{0}, "0", true, "0"},
		// One solution from several sets.
		{"1/0", all(1), all(1), "0", true, "0"},
		{"1,0;0,1/0,0", all(2), all(2), "0 0", true, "0 0"},
		{"1,0;0,1/-1,0", all(2), []int64{1, 3}, "1 0", true, "1 0"},
		{"1,0,0;0,1,0;0,0,1/0,-3,0", all(3), []int64{2, 3, 6, 7}, "0 3 0", true, "0 3 0"},
		// A point with a 0 in a set that is not feasible alone.
		{"1,0;0,1/-1,1", all(2), []int64{1}, "1 0", false, "1 0"},
		{"1,1;0,1/1,1", all(2), []int64{0}, "0 0", true, "0 0"},
		// Several solutions, in another order than their sets.
		{"1,1;1,1/-1,-1", []int64{0, 1, 2}, []int64{1, 2}, "0 1;1 0", true, ""},
		{"1,2;2,1/-1,-1", all(2), []int64{1, 2, 3}, "0 1;1/3 1/3;1 0", false, ""},
		{"-1/1", all(1), all(1), "0;1", false, "0"},
		{"-1,0;0,-1/1,1", all(2), all(2), "0 0;0 1;1 0;1 1", false, "0 0"},
		{"2,0;0,-1/-1,1", all(2), []int64{1, 3}, "1/2 0;1/2 1", false, "1/2 0"},
		// The least one has a number other than 0 at each place, and is not that of the first set.
		{"2,-1;0,-2/-1,4", all(2), []int64{1, 3}, "1/2 0;3/2 2", false, "1/2 0"},
		{"2,1;0,-2/-1,1", all(2), []int64{1, 3}, "1/4 1/2;1/2 0", false, ""},
		// 5/2 is greater than 7/3, though its Num is less.
		{"2,1;0,-3/-5,1", all(2), []int64{1, 3}, "7/3 1/3;5/2 0", false, ""},
		{"-20/100", all(1), all(1), "0;5", false, "0"},
		{"20/-100", all(1), []int64{1}, "5", false, "5"},
	}
}

// solutionsText joins solutions by ";".
func solutionsText(t *testing.T, list [][]frac) string {
	t.Helper()
	words := []string{}
	for _, z := range list {
		words = append(words, textsOf(t, z))
	}
	return strings.Join(words, ";")
}

func TestSolutionCases(t *testing.T) {
	for _, c := range solutionCases() {
		p := mustParse(t, c.text)
		if sets, code := impl.BasicSets(p); !slices.Equal(sets, c.basic) || code != impl.ErrNone {
			t.Errorf("BasicSets(%q) = %v, %d", c.text, sets, code)
		}
		if sets, code := impl.FeasibleSets(p); !slices.Equal(sets, c.feasible) || code != impl.ErrNone {
			t.Errorf("FeasibleSets(%q) = %v, %d", c.text, sets, code)
		}
		list, code := impl.SolutionsOf(p)
		if solutionsText(t, list) != c.solutions || code != impl.ErrNone {
			t.Errorf("SolutionsOf(%q) = %v, %d", c.text, list, code)
		}
		if count, code := impl.CountSolutions(p); count != int64(len(list)) || code != impl.ErrNone {
			t.Errorf("CountSolutions(%q) = %d, %d", c.text, count, code)
		}
		if yes, code := impl.IsDegenerate(p); yes != c.degenerate || code != impl.ErrNone {
			t.Errorf("IsDegenerate(%q) = %v, %d", c.text, yes, code)
		}
		want := int64(impl.ErrNone)
		if c.least == "" {
			want = impl.ErrNotFound
		}
		if z, code := impl.LeastSolution(p); textsOf(t, z) != c.least || code != want {
			t.Errorf("LeastSolution(%q) = %v, %d", c.text, z, code)
		}
	}
}

// TestMostSolutions has a solution for each set, and then one for all of them.
func TestMostSolutions(t *testing.T) {
	for n := 1; n <= impl.MaxSize; n++ {
		p := squareOf(n, 0)
		for i := range n {
			p.M[i][i], p.Q[i] = -1, 1
		}
		if count, code := impl.CountSolutions(p); count != 1<<n || code != impl.ErrNone {
			t.Errorf("CountSolutions(%v) = %d, %d", p, count, code)
		}
		if z, code := impl.LeastSolution(p); !slices.Equal(z, wholes(make([]int64, n)...)) || code != impl.ErrNone {
			t.Errorf("LeastSolution(%v) = %v, %d", p, z, code)
		}
		clear(p.Q)
		if sets, code := impl.FeasibleSets(p); !slices.Equal(sets, allSets(n)) || code != impl.ErrNone {
			t.Errorf("FeasibleSets(%v) = %v, %d", p, sets, code)
		}
		if count, code := impl.CountSolutions(p); count != 1 || code != impl.ErrNone {
			t.Errorf("CountSolutions(%v) = %d, %d", p, count, code)
		}
	}
}

func TestSolutionOfSet(t *testing.T) {
	for _, c := range []struct {
		text string
		s    int64
		want string
		code int64
	}{
		{"2,1;1,2/-5,-6", 3, "4/3 7/3", impl.ErrNone},
		{"2,1;1,2/5,6", 0, "0 0", impl.ErrNone},
		{"1,2;2,1/-1,-1", 1, "1 0", impl.ErrNone},
		{"1,2;2,1/-1,-1", 2, "0 1", impl.ErrNone},
		{"1,2;2,1/-1,-1", 3, "1/3 1/3", impl.ErrNone},
		// The number of the point that belongs to w does not come into z.
		{"1,0;0,1/-1,7", 1, "1 0", impl.ErrNone},
		{"1,0;0,1/-1,0", 3, "1 0", impl.ErrNone},
		// Basic, but not feasible.
		{"2,1;1,2/-5,-6", 0, "", impl.ErrState},
		{"2,1;1,2/-5,-6", 1, "", impl.ErrState},
		{"2,1;1,2/-5,-6", 2, "", impl.ErrState},
		{"1,0;0,1/1,1", 3, "", impl.ErrState},
		// Not basic.
		{"0/0", 1, "", impl.ErrState},
		{"1,2;2,4/-1,-2", 3, "", impl.ErrState},
	} {
		if z, code := impl.SolutionOfSet(mustParse(t, c.text), c.s); textsOf(t, z) != c.want || code != c.code {
			t.Errorf("SolutionOfSet(%q, %d) = %v, %d", c.text, c.s, z, code)
		}
	}
}

func TestSignsOfSet(t *testing.T) {
	for _, c := range []struct {
		text string
		s    int64
		want []int64
		code int64
	}{
		{"2,1;1,2/-5,-6", 0, []int64{-1, -1}, impl.ErrNone},
		{"2,1;1,2/-5,-6", 1, []int64{1, -1}, impl.ErrNone},
		{"2,1;1,2/-5,-6", 2, []int64{-1, 1}, impl.ErrNone},
		{"2,1;1,2/-5,-6", 3, []int64{1, 1}, impl.ErrNone},
		{"1,0,0;0,1,0;0,0,1/100,0,-100", 0, []int64{1, 0, -1}, impl.ErrNone},
		{"1,0,0;0,1,0;0,0,1/100,0,-100", 7, []int64{-1, 0, 1}, impl.ErrNone},
		{"-20/-1", 1, []int64{-1}, impl.ErrNone},
		{"0/0", 0, []int64{0}, impl.ErrNone},
		{"0/0", 1, nil, impl.ErrState},
		{"0/5", 1, nil, impl.ErrState},
		{"1,2;2,4/-1,-2", 3, nil, impl.ErrState},
	} {
		if signs, code := impl.SignsOfSet(mustParse(t, c.text), c.s); !slices.Equal(signs, c.want) || code != c.code {
			t.Errorf("SignsOfSet(%q, %d) = %v, %d", c.text, c.s, signs, code)
		}
	}
}

// TestSolutionSetsOutOfRange: with M of zeros alone a set in range has other results.
func TestSolutionSetsOutOfRange(t *testing.T) {
	for n := 1; n <= impl.MaxSize; n++ {
		p := squareOf(n, 0)
		for _, s := range []int64{-1, 1 << n, 1<<n + 1, 64, 1 << 32, leastInt, greatestInt} {
			if z, code := impl.SolutionOfSet(p, s); len(z) != 0 || code != impl.ErrRange {
				t.Errorf("SolutionOfSet(size %d, %d) = %v, %d", n, s, z, code)
			}
			if signs, code := impl.SignsOfSet(p, s); len(signs) != 0 || code != impl.ErrRange {
				t.Errorf("SignsOfSet(size %d, %d) = %v, %d", n, s, signs, code)
			}
		}
		if z, code := impl.SolutionOfSet(p, 1<<n-1); len(z) != 0 || code != impl.ErrState {
			t.Errorf("SolutionOfSet(size %d, all) = %v, %d", n, z, code)
		}
		if signs, code := impl.SignsOfSet(p, 1<<n-1); len(signs) != 0 || code != impl.ErrState {
			t.Errorf("SignsOfSet(size %d, all) = %v, %d", n, signs, code)
		}
	}
}

// TestSolutionsOfInvalidProblems gives the other arguments out of range too, as ErrInvalid comes
// first.
func TestSolutionsOfInvalidProblems(t *testing.T) {
	for name, p := range invalidProblems() {
		check := func(function string, isZero bool, code int64) {
			t.Helper()
			if !isZero || code != impl.ErrInvalid {
				t.Errorf("%s of %s: zero %v, code %d", function, name, isZero, code)
			}
		}
		basic, code := impl.BasicSets(p)
		check("BasicSets", len(basic) == 0, code)
		feasible, code := impl.FeasibleSets(p)
		check("FeasibleSets", len(feasible) == 0, code)
		list, code := impl.SolutionsOf(p)
		check("SolutionsOf", len(list) == 0, code)
		count, code := impl.CountSolutions(p)
		check("CountSolutions", count == 0, code)
		degenerate, code := impl.IsDegenerate(p)
		check("IsDegenerate", !degenerate, code)
		least, code := impl.LeastSolution(p)
		check("LeastSolution", len(least) == 0, code)
		for _, s := range []int64{0, 1, -1, 64, leastInt, greatestInt} {
			z, code := impl.SolutionOfSet(p, s)
			check("SolutionOfSet", len(z) == 0, code)
			signs, code := impl.SignsOfSet(p, s)
			check("SignsOfSet", len(signs) == 0, code)
		}
		for _, z := range [][]frac{nil, {}, wholes(0), wholes(1, 2), wholes(1001, 2, 3), {{}}} {
			allowed, code := impl.IsAllowed(p, z)
			check("IsAllowed", !allowed, code)
			gap, code := impl.GapOf(p, z)
			check("GapOf", gap == frac{}, code)
		}
	}
}

func TestIsAllowed(t *testing.T) {
	const m = impl.MaxFrac
	for _, c := range []struct {
		text string
		z    []frac
		want bool
		code int64
	}{
		{"2,1;1,2/-5,-6", wholes(5, 5), true, impl.ErrNone},
		{"2,1;1,2/-5,-6", []frac{{Num: 4, Den: 3}, {Num: 7, Den: 3}}, true, impl.ErrNone},
		{"2,1;1,2/-5,-6", wholes(0, 0), false, impl.ErrNone},
		{"2,1;1,2/-5,-6", wholes(5, 0), false, impl.ErrNone},
		{"2,1;1,2/-5,-6", wholes(0, 5), true, impl.ErrNone},
		{"2,1;1,2/-5,-6", wholes(20, -1), false, impl.ErrNone},
		{"1/0", wholes(-1), false, impl.ErrNone},
		{"-1/0", wholes(-1), false, impl.ErrNone},
		{"-1/0", wholes(1), false, impl.ErrNone},
		{"0/0", wholes(0), true, impl.ErrNone},
		{"0/0", wholes(m), true, impl.ErrNone},
		{"0/0", []frac{{Num: 1, Den: m}}, true, impl.ErrNone},
		{"1/0", wholes(m), true, impl.ErrNone},
		// The remainder is beyond the limits, whatever its sign and that of z.
		{"1/1", wholes(m), false, impl.ErrLimit},
		{"-1/-1", wholes(m), false, impl.ErrLimit},
		{"1/-1", wholes(-m), false, impl.ErrLimit},
		{"0,0;20,0/0,5", wholes(m, 0), false, impl.ErrLimit},
		// One denominator at the limit, and beyond; likewise the numbers written with it.
		{"0,0;0,0/0,0", []frac{{Num: 1, Den: 512}, {Num: 1, Den: 1953125}}, true, impl.ErrNone},
		{"0,0;0,0/0,0", []frac{{Num: 1, Den: 1001}, {Num: 1, Den: 999001}}, false, impl.ErrLimit},
		{"0,0;0,0/0,0", []frac{{Num: -1, Den: 1001}, {Num: 1, Den: 999001}}, false, impl.ErrLimit},
		{"0,0;0,0/0,0", []frac{{Num: m, Den: 1}, {Num: 1, Den: 1000}}, true, impl.ErrNone},
		{"0,0;0,0/0,0", []frac{{Num: 99990001, Den: 1}, {Num: 1, Den: 10001}}, false, impl.ErrLimit},
		{"0,0;0,0/0,0", nil, false, impl.ErrRange},
		{"0,0;0,0/0,0", wholes(1), false, impl.ErrRange},
		{"0,0;0,0/0,0", wholes(1, 1, 1), false, impl.ErrRange},
	} {
		if yes, code := impl.IsAllowed(mustParse(t, c.text), c.z); yes != c.want || code != c.code {
			t.Errorf("IsAllowed(%q, %v) = %v, %d", c.text, c.z, yes, code)
		}
	}
}

func TestGapOf(t *testing.T) {
	for _, c := range []struct {
		text string
		z    []frac
		want frac
	}{
		{"2,1;1,2/-5,-6", wholes(5, 5), frac{Num: 95, Den: 1}},
		{"2,1;1,2/-5,-6", []frac{{Num: 4, Den: 3}, {Num: 7, Den: 3}}, frac{Num: 0, Den: 1}},
		{"2,1;1,2/-5,-6", wholes(0, 0), frac{Num: 0, Den: 1}},
		{"2,1;1,2/-5,-6", wholes(1, 0), frac{Num: -3, Den: 1}},
		{"2,1;1,2/-5,-6", wholes(-1, 0), frac{Num: 7, Den: 1}},
		{"2,1;1,2/-5,-6", []frac{{Num: 1, Den: 2}, {Num: 1, Den: 3}}, frac{Num: -31, Den: 9}},
		{"2,1;1,2/-5,-6", []frac{{Num: 1, Den: 2}, {Num: 1, Den: 2}}, frac{Num: -4, Den: 1}},
		// A gap of 0 without a solution.
		{"0,0;0,0/1,-1", wholes(2, 2), frac{Num: 0, Den: 1}},
		// All limits of z.
		{"20/100", wholes(1000), frac{Num: 20100000, Den: 1}},
		{"20/-100", wholes(-1000), frac{Num: 20100000, Den: 1}},
		{"0/1", []frac{{Num: 1, Den: 1000}}, frac{Num: 1, Den: 1000}},
		{"1/0", []frac{{Num: 1, Den: 1000}}, frac{Num: 1, Den: 1000000}},
		{"0,0;0,0/1,1", []frac{{Num: 1, Den: 8}, {Num: 1, Den: 125}}, frac{Num: 133, Den: 1000}},
		{"0,0;0,0/1,1", []frac{{Num: 1000, Den: 1}, {Num: 1, Den: 1000}}, frac{Num: 1000001, Den: 1000}},
		{"0,0;0,0/0,1", []frac{{Num: 1000, Den: 999}, {Num: -1000, Den: 999}}, frac{Num: -1000, Den: 999}},
	} {
		if gap, code := impl.GapOf(mustParse(t, c.text), c.z); gap != c.want || code != impl.ErrNone {
			t.Errorf("GapOf(%q, %v) = %v, %d", c.text, c.z, gap, code)
		}
	}
}

// TestGapBeyondArguments: ErrRange, and no fraction is ErrInvalid before it.
func TestGapBeyondArguments(t *testing.T) {
	p := mustParse(t, "0,0;0,0/0,0")
	for _, z := range [][]frac{
		wholes(1001, 0), wholes(0, 1001), wholes(-1001, 0), wholes(0, -1001), wholes(impl.MaxFrac, -impl.MaxFrac),
		{{Num: 1, Den: 1001}, {Num: 0, Den: 1}}, {{Num: 0, Den: 1}, {Num: 1, Den: 1001}},
		{{Num: 1001, Den: 1000}, {Num: 0, Den: 1}}, {{Num: 1, Den: impl.MaxFrac}, {Num: 0, Den: 1}},
		// The least common denominator is 1001, and then beyond MaxFrac too.
		{{Num: 1, Den: 7}, {Num: 1, Den: 143}}, {{Num: 1, Den: 999}, {Num: 1, Den: 1000}},
		{{Num: 1, Den: 999999999}, {Num: 1, Den: impl.MaxFrac}},
		nil, {}, wholes(1), wholes(1, 1, 1), wholes(1001), {{Num: 1, Den: 1001}},
	} {
		if gap, code := impl.GapOf(p, z); gap != (frac{}) || code != impl.ErrRange {
			t.Errorf("GapOf(%v) = %v, %d", z, gap, code)
		}
	}
	five := []frac{{Num: 1, Den: 997}, {Num: 1, Den: 991}, {Num: 1, Den: 983}, {Num: 1, Den: 977}, {Num: 1, Den: 971}}
	if gap, code := impl.GapOf(squareOf(5, 20), five); gap != (frac{}) || code != impl.ErrRange {
		t.Errorf("GapOf(%v) = %v, %d", five, gap, code)
	}
	for _, bad := range invalidFracs() {
		for _, z := range [][]frac{{bad}, {bad, {Num: 1, Den: 1}}, {{Num: 1, Den: 1}, bad}, {{Num: 1001, Den: 1}, bad}, {{Num: 1, Den: 1}, {Num: 1, Den: 1}, bad}} {
			if gap, code := impl.GapOf(p, z); gap != (frac{}) || code != impl.ErrInvalid {
				t.Errorf("GapOf(%v) = %v, %d", z, gap, code)
			}
			if yes, code := impl.IsAllowed(p, z); yes || code != impl.ErrInvalid {
				t.Errorf("IsAllowed(%v) = %v, %d", z, yes, code)
			}
		}
	}
}

// TestGapLimits has gaps with a Num of MaxFrac, of one more, and of far more.
func TestGapLimits(t *testing.T) {
	// The first number gives 1000/17 times 1000000/17, the second one 1/17 times its remainder.
	z := []frac{{Num: 1000, Den: 17}, {Num: 1, Den: 17}, {Num: 1000, Den: 1}, {Num: 1000, Den: 1}, {Num: 880, Den: 1}}
	const first, third = "20,1,20,20,20;0,", ",0,0,0;0,0,0,0,0;0,0,0,0,0;0,0,0,0,0/47,0,0,0,0"
	const minusFirst, minusThird = "-20,-1,-20,-20,-20;0,", ",0,0,0;0,0,0,0,0;0,0,0,0,0;0,0,0,0,0/-47,0,0,0,0"
	const products = "0,0;19,19/0,0"
	for _, c := range []struct {
		text string
		z    []frac
		want frac
		code int64
	}{
		{first + "0" + third, z, frac{Num: impl.MaxFrac, Den: 289}, impl.ErrNone},
		{first + "1" + third, z, frac{}, impl.ErrLimit},
		{minusFirst + "0" + minusThird, z, frac{Num: -impl.MaxFrac, Den: 289}, impl.ErrNone},
		{minusFirst + "-1" + minusThird, z, frac{}, impl.ErrLimit},
		{products, []frac{{Num: 1000, Den: 1}, {Num: 999, Den: 1000}}, frac{}, impl.ErrLimit},
		{products, []frac{{Num: 1000, Den: 1}, {Num: -999, Den: 1000}}, frac{}, impl.ErrLimit},
		// Both products are beyond the limits, but not their sum.
		{"19,0,19;-19,0,-19;0,0,0/0,0,0", []frac{{Num: 999, Den: 1000}, {Num: 999, Den: 1000}, {Num: 1000, Den: 1}}, frac{Num: 0, Den: 1}, impl.ErrNone},
		{"19,0,19;-19,0,-19;0,0,0/1,0,0", []frac{{Num: 999, Den: 1000}, {Num: 999, Den: 1000}, {Num: 1000, Den: 1}}, frac{Num: 999, Den: 1000}, impl.ErrNone},
		// ErrRange comes before ErrLimit.
		{products, []frac{{Num: 1001, Den: 1}, {Num: 999, Den: 1000}}, frac{}, impl.ErrRange},
	} {
		if gap, code := impl.GapOf(mustParse(t, c.text), c.z); gap != c.want || code != c.code {
			t.Errorf("GapOf(%q, %v) = %v, %d", c.text, c.z, gap, code)
		}
	}
}

// exactRemainder returns the remainder of z without limits.
func exactRemainder(p problem, z []frac) []*big.Rat {
	list := []*big.Rat{}
	for i, row := range p.M {
		sum := big.NewRat(p.Q[i], 1)
		for k, a := range z {
			sum.Add(sum, new(big.Rat).Mul(big.NewRat(row[k], 1), ratOf(a)))
		}
		list = append(list, sum)
	}
	return list
}

// TestGapsAgainstExactOnes also looks at IsAllowed, and at what it tells of solutions.
func TestGapsAgainstExactOnes(t *testing.T) {
	source := rand.New(rand.NewSource(4))
	allowed := 0
	for _, p := range someProblems(3000) {
		z := []frac{}
		den := source.Int63n(20) + 1
		for range p.M {
			a, _ := impl.FracOf(source.Int63n(60)-15, den)
			z = append(z, a)
		}
		want, wantAllowed := new(big.Rat), true
		for i, w := range exactRemainder(p, z) {
			want.Add(want, new(big.Rat).Mul(ratOf(z[i]), w))
			wantAllowed = wantAllowed && z[i].Num >= 0 && w.Sign() >= 0
		}
		gap, code := impl.GapOf(p, z)
		checkRat(t, "gap", gap, code, want)
		yes, code := impl.IsAllowed(p, z)
		if yes != wantAllowed || code != impl.ErrNone {
			t.Errorf("IsAllowed(%v, %v) = %v, %d", p, z, yes, code)
		}
		if !yes {
			continue
		}
		allowed++
		if is, code := impl.IsSolution(p, z); is != (gap.Num == 0) || code != impl.ErrNone {
			t.Errorf("IsSolution(%v, %v) = %v, %d, but the gap is %v", p, z, is, code, gap)
		}
	}
	if allowed < 100 {
		t.Errorf("only %d lists are allowed", allowed)
	}
}

// TestSolutionsOfFeasibleSets is promise 2.
func TestSolutionsOfFeasibleSets(t *testing.T) {
	gaps := 0
	for _, p := range append(someProblems(600), degenerateProblems(200)...) {
		sets, code := impl.FeasibleSets(p)
		if code != impl.ErrNone {
			t.Fatalf("FeasibleSets(%v): code %d", p, code)
		}
		for _, s := range sets {
			z, code := impl.SolutionOfSet(p, s)
			if code != impl.ErrNone {
				t.Fatalf("SolutionOfSet(%v, %d): code %d", p, s, code)
			}
			if yes, code := impl.IsSolution(p, z); !yes || code != impl.ErrNone {
				t.Errorf("IsSolution(%v, %v) = %v, %d", p, z, yes, code)
			}
			if yes, code := impl.IsAllowed(p, z); !yes || code != impl.ErrNone {
				t.Errorf("IsAllowed(%v, %v) = %v, %d", p, z, yes, code)
			}
			gap, code := impl.GapOf(p, z)
			if code == impl.ErrRange {
				continue
			}
			if gap != (frac{Num: 0, Den: 1}) || code != impl.ErrNone {
				t.Errorf("GapOf(%v, %v) = %v, %d", p, z, gap, code)
			}
			gaps++
		}
	}
	if gaps < 500 {
		t.Errorf("only %d gaps", gaps)
	}
}

// degenerateProblems has many zeros, so that several sets have one solution.
func degenerateProblems(count int) []problem {
	source := rand.New(rand.NewSource(5))
	list := []problem{}
	for i := range count {
		n := i%impl.MaxSize + 1
		p := squareOf(n, 0)
		for r := range n {
			p.Q[r] = source.Int63n(3) - 1
			for c := range n {
				p.M[r][c] = source.Int63n(3) - 1
			}
			p.M[r][r] += source.Int63n(3)
		}
		list = append(list, p)
	}
	return list
}

// exactFacts is what the points of all sets, solved apart from the program, tell of a problem.
type exactFacts struct {
	basic, feasible []int64
	solutions       [][]*big.Rat
	degenerate      bool
}

func exactFactsOf(p problem) exactFacts {
	facts := exactFacts{}
	for _, s := range allSets(len(p.M)) {
		point := exactPoint(p, s)
		if point == nil {
			continue
		}
		facts.basic = append(facts.basic, s)
		feasible := true
		z := []*big.Rat{}
		for i, x := range point {
			feasible = feasible && x.Sign() >= 0
			facts.degenerate = facts.degenerate || x.Sign() == 0
			if s>>i&1 == 1 {
				z = append(z, x)
			} else {
				z = append(z, new(big.Rat))
			}
		}
		if feasible {
			facts.feasible = append(facts.feasible, s)
			facts.solutions = append(facts.solutions, z)
		}
	}
	slices.SortFunc(facts.solutions, compareRats)
	facts.solutions = slices.CompactFunc(facts.solutions, func(a, b []*big.Rat) bool { return compareRats(a, b) == 0 })
	return facts
}

func compareRats(a, b []*big.Rat) int {
	return slices.CompareFunc(a, b, (*big.Rat).Cmp)
}

// leastOf tries each solution, and returns nil if none is the least one.
func leastOf(list [][]*big.Rat) []*big.Rat {
	for _, z := range list {
		least := true
		for _, other := range list {
			for i := range z {
				least = least && z[i].Cmp(other[i]) <= 0
			}
		}
		if least {
			return z
		}
	}
	return nil
}

func ratsOf(list []frac) []*big.Rat {
	result := []*big.Rat{}
	for _, a := range list {
		result = append(result, ratOf(a))
	}
	return result
}

func TestSolutionsAgainstExactOnes(t *testing.T) {
	found, missing := 0, 0
	for _, p := range append(someProblems(400), degenerateProblems(800)...) {
		facts := exactFactsOf(p)
		basic, code := impl.BasicSets(p)
		if !slices.Equal(basic, facts.basic) || code != impl.ErrNone {
			t.Errorf("BasicSets(%v) = %v, %d", p, basic, code)
		}
		feasible, code := impl.FeasibleSets(p)
		if !slices.Equal(feasible, facts.feasible) || code != impl.ErrNone {
			t.Errorf("FeasibleSets(%v) = %v, %d", p, feasible, code)
		}
		list, code := impl.SolutionsOf(p)
		same := slices.EqualFunc(list, facts.solutions, func(a []frac, b []*big.Rat) bool { return compareRats(ratsOf(a), b) == 0 })
		if !same || code != impl.ErrNone {
			t.Errorf("SolutionsOf(%v) = %v, %d, want %v", p, list, code, facts.solutions)
		}
		if count, code := impl.CountSolutions(p); count != int64(len(facts.solutions)) || code != impl.ErrNone {
			t.Errorf("CountSolutions(%v) = %d, %d", p, count, code)
		}
		if yes, code := impl.IsDegenerate(p); yes != facts.degenerate || code != impl.ErrNone {
			t.Errorf("IsDegenerate(%v) = %v, %d", p, yes, code)
		}
		least, code := impl.LeastSolution(p)
		want := leastOf(facts.solutions)
		if compareRats(ratsOf(least), want) != 0 || code != impl.ErrNone && code != impl.ErrNotFound || (code == impl.ErrNotFound) != (want == nil) {
			t.Errorf("LeastSolution(%v) = %v, %d, want %v", p, least, code, want)
		}
		if want == nil && len(list) > 1 {
			missing++
		} else if len(list) > 1 {
			found++
		}
	}
	if found < 20 || missing < 20 {
		t.Errorf("only %d least solutions of several ones, %d without", found, missing)
	}
}

// TestSetsAgainstExactOnes looks at each set, with the codes for those that are not feasible.
func TestSetsAgainstExactOnes(t *testing.T) {
	for _, p := range append(someProblems(150), degenerateProblems(150)...) {
		facts := exactFactsOf(p)
		for _, s := range allSets(len(p.M)) {
			point := exactPoint(p, s)
			signs, code := impl.SignsOfSet(p, s)
			if point == nil && code != impl.ErrState || point != nil && code != impl.ErrNone || len(signs) != len(point) {
				t.Fatalf("SignsOfSet(%v, %d) = %v, %d", p, s, signs, code)
			}
			for i, sign := range signs {
				if sign != int64(point[i].Sign()) {
					t.Errorf("SignsOfSet(%v, %d) = %v", p, s, signs)
				}
			}
			z, code := impl.SolutionOfSet(p, s)
			if !slices.Contains(facts.feasible, s) {
				if len(z) != 0 || code != impl.ErrState {
					t.Errorf("SolutionOfSet(%v, %d) = %v, %d", p, s, z, code)
				}
				continue
			}
			if len(z) != len(p.M) || code != impl.ErrNone {
				t.Fatalf("SolutionOfSet(%v, %d) = %v, %d", p, s, z, code)
			}
			for i, a := range z {
				if !impl.IsFrac(a) || s>>i&1 == 1 && ratOf(a).Cmp(point[i]) != 0 || s>>i&1 == 0 && a.Num != 0 {
					t.Errorf("SolutionOfSet(%v, %d) = %v", p, s, z)
				}
			}
		}
	}
}

// TestSolutionArgumentsStay: nothing of chapter 2 changes an argument, or what is behind it.
func TestSolutionArgumentsStay(t *testing.T) {
	p, same := guardedProblem(mustParse(t, "1,2;2,1/-1,-1"))
	z, sameZ := guarded([]frac{{Num: 4, Den: 3}, {Num: 7, Den: 3}}, frac{Num: 5, Den: 1})
	impl.BasicSets(p)
	impl.FeasibleSets(p)
	impl.SolutionsOf(p)
	impl.CountSolutions(p)
	impl.IsDegenerate(p)
	impl.LeastSolution(p)
	for _, s := range []int64{-1, 0, 1, 2, 3, 4} {
		impl.SolutionOfSet(p, s)
		impl.SignsOfSet(p, s)
	}
	impl.IsAllowed(p, z)
	impl.GapOf(p, z)
	if !same() || !sameZ() {
		t.Errorf("an argument has been changed")
	}
}

// TestSolutionsAreNew writes into results, and looks at their neighbours and at the next results.
func TestSolutionsAreNew(t *testing.T) {
	p := mustParse(t, "-1,0;0,-1/1,1")
	first, code := impl.SolutionsOf(p)
	if len(first) != 4 || code != impl.ErrNone {
		t.Fatalf("SolutionsOf = %v, %d", first, code)
	}
	spoilFracs(t, "SolutionsOf", first)
	if second, _ := impl.SolutionsOf(p); solutionsText(t, second) != "0 0;0 1;1 0;1 1" {
		t.Errorf("SolutionsOf is now %v", second)
	}
	for s := range int64(4) {
		a, _ := impl.SolutionOfSet(p, s)
		b, _ := impl.SolutionOfSet(p, s)
		spoilFracs(t, "SolutionOfSet", [][]frac{a, b})
	}
	a, _ := impl.LeastSolution(p)
	b, _ := impl.LeastSolution(p)
	spoilFracs(t, "LeastSolution", [][]frac{a, b})
	for _, f := range []func() ([]int64, int64){
		func() ([]int64, int64) { return impl.BasicSets(p) },
		func() ([]int64, int64) { return impl.FeasibleSets(p) },
		func() ([]int64, int64) { return impl.SignsOfSet(p, 3) },
	} {
		a, _ := f()
		want := slices.Clone(a)
		b, _ := f()
		spoilRows(t, "sets or signs", [][]int64{a, b})
		if again, code := f(); !reflect.DeepEqual(again, want) || code != impl.ErrNone {
			t.Errorf("result = %v, then %v, %d", want, again, code)
		}
	}
}
