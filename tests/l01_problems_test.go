package tests

import (
	"math/big"
	"math/rand"
	"reflect"
	"regexp"
	"slices"
	"strings"
	"testing"

	"loop.example/g01343/impl"
)

const (
	leastInt    = -1 << 63
	greatestInt = 1<<63 - 1
	wide        = 1000000000000
)

func TestConstants(t *testing.T) {
	got := []int64{impl.ErrNone, impl.ErrInvalid, impl.ErrRange, impl.ErrLimit, impl.ErrNotFound, impl.ErrState, impl.ErrSyntax}
	if !slices.Equal(got, []int64{0, 1, 2, 3, 4, 5, 6}) {
		t.Errorf("error codes = %v", got)
	}
	limits := []int64{impl.MaxSize, impl.MaxEntry, impl.MaxRight, impl.MaxFrac}
	if !slices.Equal(limits, []int64{5, 20, 100, 1000000000}) {
		t.Errorf("limits = %v", limits)
	}
}

func TestIsFrac(t *testing.T) {
	for _, a := range []frac{
		{Num: 0, Den: 1}, {Num: 1, Den: 1}, {Num: -1, Den: 1}, {Num: -3, Den: 2}, {Num: 5, Den: 7},
		{Num: impl.MaxFrac, Den: 1}, {Num: -impl.MaxFrac, Den: 1}, {Num: 1, Den: impl.MaxFrac},
		{Num: impl.MaxFrac, Den: impl.MaxFrac - 1}, {Num: 1 - impl.MaxFrac, Den: impl.MaxFrac},
	} {
		if !impl.IsFrac(a) {
			t.Errorf("IsFrac(%v) = false", a)
		}
	}
	for _, a := range invalidFracs() {
		if impl.IsFrac(a) {
			t.Errorf("IsFrac(%v) = true", a)
		}
	}
}

func TestFracOf(t *testing.T) {
	for _, c := range []struct {
		num, den int64
		want     frac
		code     int64
	}{
		{6, -4, frac{Num: -3, Den: 2}, impl.ErrNone},
		{6, 4, frac{Num: 3, Den: 2}, impl.ErrNone},
		{-6, -4, frac{Num: 3, Den: 2}, impl.ErrNone},
		{-6, 4, frac{Num: -3, Den: 2}, impl.ErrNone},
		{0, 5, frac{Num: 0, Den: 1}, impl.ErrNone},
		{0, -wide, frac{Num: 0, Den: 1}, impl.ErrNone},
		{7, 7, frac{Num: 1, Den: 1}, impl.ErrNone},
		{wide, wide, frac{Num: 1, Den: 1}, impl.ErrNone},
		{-wide, wide, frac{Num: -1, Den: 1}, impl.ErrNone},
		{-wide, -wide, frac{Num: 1, Den: 1}, impl.ErrNone},
		{wide, 1000, frac{Num: impl.MaxFrac, Den: 1}, impl.ErrNone},
		{wide, -1000, frac{Num: -impl.MaxFrac, Den: 1}, impl.ErrNone},
		{1000, wide, frac{Num: 1, Den: impl.MaxFrac}, impl.ErrNone},
		{impl.MaxFrac + 1, 1, frac{}, impl.ErrLimit},
		{-impl.MaxFrac - 1, 1, frac{}, impl.ErrLimit},
		{1, impl.MaxFrac + 1, frac{}, impl.ErrLimit},
		{1, -impl.MaxFrac - 1, frac{}, impl.ErrLimit},
		{wide, 1, frac{}, impl.ErrLimit},
		{1, wide, frac{}, impl.ErrLimit},
		{1, 0, frac{}, impl.ErrRange},
		{0, 0, frac{}, impl.ErrRange},
		{wide + 1, 1, frac{}, impl.ErrRange},
		{-wide - 1, 1, frac{}, impl.ErrRange},
		{1, wide + 1, frac{}, impl.ErrRange},
		{1, -wide - 1, frac{}, impl.ErrRange},
		{wide + 1, wide + 1, frac{}, impl.ErrRange},
		{0, wide + 1, frac{}, impl.ErrRange},
		{leastInt, leastInt, frac{}, impl.ErrRange},
		{leastInt, -1, frac{}, impl.ErrRange},
		{1, leastInt, frac{}, impl.ErrRange},
		{greatestInt, greatestInt, frac{}, impl.ErrRange},
		{1, greatestInt, frac{}, impl.ErrRange},
	} {
		if a, code := impl.FracOf(c.num, c.den); a != c.want || code != c.code {
			t.Errorf("FracOf(%d, %d) = %v, %d", c.num, c.den, a, code)
		}
	}
}

func TestAddFracs(t *testing.T) {
	const m = impl.MaxFrac
	half, third := frac{Num: 1, Den: 2}, frac{Num: 1, Den: 3}
	for _, c := range []struct {
		a, b frac
		k    int64
		want frac
		code int64
	}{
		{half, third, 1, frac{Num: 5, Den: 6}, impl.ErrNone},
		{half, third, -1, frac{Num: 1, Den: 6}, impl.ErrNone},
		{third, half, -1, frac{Num: -1, Den: 6}, impl.ErrNone},
		{half, half, 1, frac{Num: 1, Den: 1}, impl.ErrNone},
		{half, half, -1, frac{Num: 0, Den: 1}, impl.ErrNone},
		{frac{Num: 1, Den: m}, frac{Num: m - 1, Den: m}, 1, frac{Num: 1, Den: 1}, impl.ErrNone},
		{frac{Num: m - 1, Den: 1}, frac{Num: 1, Den: 1}, 1, frac{Num: m, Den: 1}, impl.ErrNone},
		{frac{Num: m, Den: 1}, frac{Num: 1, Den: 1}, 1, frac{}, impl.ErrLimit},
		{frac{Num: -m, Den: 1}, frac{Num: 1, Den: 1}, -1, frac{}, impl.ErrLimit},
		{frac{Num: m, Den: 1}, frac{Num: m, Den: 1}, -1, frac{Num: 0, Den: 1}, impl.ErrNone},
		{frac{Num: m, Den: m - 1}, frac{Num: m - 1, Den: m}, 1, frac{}, impl.ErrLimit},
		{frac{Num: 1, Den: m}, frac{Num: 1, Den: m - 1}, 1, frac{}, impl.ErrLimit},
		{half, third, 0, frac{}, impl.ErrRange},
		{half, third, 2, frac{}, impl.ErrRange},
		{half, third, -2, frac{}, impl.ErrRange},
		{half, third, leastInt, frac{}, impl.ErrRange},
		{half, third, greatestInt, frac{}, impl.ErrRange},
		{frac{Num: m, Den: 1}, frac{Num: m, Den: 1}, 3, frac{}, impl.ErrRange},
		{frac{}, third, 0, frac{}, impl.ErrInvalid},
		{half, frac{Num: 2, Den: 4}, 7, frac{}, impl.ErrInvalid},
	} {
		if a, code := impl.AddFracs(c.a, c.b, c.k); a != c.want || code != c.code {
			t.Errorf("AddFracs(%v, %v, %d) = %v, %d", c.a, c.b, c.k, a, code)
		}
	}
}

func TestMultiplyFracs(t *testing.T) {
	const m = impl.MaxFrac
	for _, c := range []struct {
		a, b, want frac
		code       int64
	}{
		{frac{Num: 1, Den: 2}, frac{Num: -4, Den: 3}, frac{Num: -2, Den: 3}, impl.ErrNone},
		{frac{Num: -1, Den: 2}, frac{Num: -2, Den: 1}, frac{Num: 1, Den: 1}, impl.ErrNone},
		{frac{Num: 0, Den: 1}, frac{Num: 1, Den: m}, frac{Num: 0, Den: 1}, impl.ErrNone},
		{frac{Num: m, Den: m - 1}, frac{Num: m - 1, Den: m}, frac{Num: 1, Den: 1}, impl.ErrNone},
		{frac{Num: m, Den: 1}, frac{Num: 1, Den: m}, frac{Num: 1, Den: 1}, impl.ErrNone},
		{frac{Num: m / 2, Den: 1}, frac{Num: 2, Den: 1}, frac{Num: m, Den: 1}, impl.ErrNone},
		{frac{Num: 1, Den: m / 2}, frac{Num: 1, Den: 2}, frac{Num: 1, Den: m}, impl.ErrNone},
		{frac{Num: m/2 + 1, Den: 1}, frac{Num: -2, Den: 1}, frac{}, impl.ErrLimit},
		{frac{Num: 1, Den: m/2 + 1}, frac{Num: 1, Den: 2}, frac{}, impl.ErrLimit},
		{frac{Num: m, Den: 1}, frac{Num: m, Den: 1}, frac{}, impl.ErrLimit},
		{frac{Num: 1, Den: m}, frac{Num: 1, Den: m}, frac{}, impl.ErrLimit},
	} {
		if a, code := impl.MultiplyFracs(c.a, c.b); a != c.want || code != c.code {
			t.Errorf("MultiplyFracs(%v, %v) = %v, %d", c.a, c.b, a, code)
		}
	}
}

func TestCompareFracs(t *testing.T) {
	const m = impl.MaxFrac
	ascending := []frac{
		{Num: -m, Den: 1}, {Num: 1 - m, Den: 1}, {Num: -m, Den: m - 1}, {Num: -1, Den: 1}, {Num: 1 - m, Den: m},
		{Num: -1, Den: 2}, {Num: -1, Den: m}, {Num: 0, Den: 1}, {Num: 1, Den: m}, {Num: 1, Den: m - 1},
		{Num: 1, Den: 3}, {Num: 1, Den: 2}, {Num: m - 2, Den: m - 1}, {Num: m - 1, Den: m}, {Num: 1, Den: 1},
		{Num: m, Den: m - 1}, {Num: 7, Den: 3}, {Num: m, Den: 1},
	}
	for i, a := range ascending {
		for k, b := range ascending {
			want := int64(0)
			if i < k {
				want = -1
			} else if i > k {
				want = 1
			}
			if got, code := impl.CompareFracs(a, b); got != want || code != impl.ErrNone {
				t.Errorf("CompareFracs(%v, %v) = %d, %d", a, b, got, code)
			}
		}
	}
}

func TestFracsRejectInvalid(t *testing.T) {
	good := frac{Num: 1, Den: 2}
	for _, bad := range invalidFracs() {
		for _, pair := range [][2]frac{{bad, good}, {good, bad}, {bad, bad}} {
			if a, code := impl.AddFracs(pair[0], pair[1], 1); a != (frac{}) || code != impl.ErrInvalid {
				t.Errorf("AddFracs(%v) = %v, %d", pair, a, code)
			}
			if a, code := impl.MultiplyFracs(pair[0], pair[1]); a != (frac{}) || code != impl.ErrInvalid {
				t.Errorf("MultiplyFracs(%v) = %v, %d", pair, a, code)
			}
			if n, code := impl.CompareFracs(pair[0], pair[1]); n != 0 || code != impl.ErrInvalid {
				t.Errorf("CompareFracs(%v) = %d, %d", pair, n, code)
			}
		}
		if text, code := impl.FracText(bad); text != "" || code != impl.ErrInvalid {
			t.Errorf("FracText(%v) = %q, %d", bad, text, code)
		}
	}
}

// checkRat compares a result with an exact one, which is beyond the limits or not.
func checkRat(t *testing.T, name string, got frac, code int64, want *big.Rat) {
	t.Helper()
	if isBeyond(want) {
		if got != (frac{}) || code != impl.ErrLimit {
			t.Errorf("%s = %v, %d, want ErrLimit", name, got, code)
		}
		return
	}
	if code != impl.ErrNone || !impl.IsFrac(got) || ratOf(got).Cmp(want) != 0 {
		t.Errorf("%s = %v, %d, want %v", name, got, code, want)
	}
}

func TestFracsAgainstExactOnes(t *testing.T) {
	source := rand.New(rand.NewSource(2))
	sizes := []int64{3, 10, 1000, 40000, impl.MaxFrac}
	pick := func() frac {
		size := sizes[source.Intn(len(sizes))]
		a, code := impl.FracOf(source.Int63n(2*size+1)-size, source.Int63n(size)+1)
		if code != impl.ErrNone {
			t.Fatalf("FracOf: code %d", code)
		}
		return a
	}
	for range 4000 {
		a, b := pick(), pick()
		sum, code := impl.AddFracs(a, b, 1)
		checkRat(t, "sum", sum, code, new(big.Rat).Add(ratOf(a), ratOf(b)))
		if other, again := impl.AddFracs(b, a, 1); other != sum || again != code {
			t.Errorf("AddFracs(%v, %v) depends on the order", a, b)
		}
		difference, code := impl.AddFracs(a, b, -1)
		checkRat(t, "difference", difference, code, new(big.Rat).Sub(ratOf(a), ratOf(b)))
		product, code := impl.MultiplyFracs(a, b)
		checkRat(t, "product", product, code, new(big.Rat).Mul(ratOf(a), ratOf(b)))
		if other, again := impl.MultiplyFracs(b, a); other != product || again != code {
			t.Errorf("MultiplyFracs(%v, %v) depends on the order", a, b)
		}
		if n, code := impl.CompareFracs(a, b); n != int64(ratOf(a).Cmp(ratOf(b))) || code != impl.ErrNone {
			t.Errorf("CompareFracs(%v, %v) = %d, %d", a, b, n, code)
		}
	}
}

func TestFracText(t *testing.T) {
	for text, a := range map[string]frac{
		"0":                     {Num: 0, Den: 1},
		"7":                     {Num: 7, Den: 1},
		"-7":                    {Num: -7, Den: 1},
		"-3/2":                  {Num: -3, Den: 2},
		"1/1000000000":          {Num: 1, Den: impl.MaxFrac},
		"-1000000000":           {Num: -impl.MaxFrac, Den: 1},
		"-999999999/1000000000": {Num: 1 - impl.MaxFrac, Den: impl.MaxFrac},
	} {
		if got, code := impl.FracText(a); got != text || code != impl.ErrNone {
			t.Errorf("FracText(%v) = %q, %d", a, got, code)
		}
	}
}

func TestIsProblem(t *testing.T) {
	for n := 1; n <= impl.MaxSize; n++ {
		for _, x := range []int64{0, 1, impl.MaxEntry, -impl.MaxEntry} {
			p := squareOf(n, x)
			p.Q[0], p.Q[n-1] = impl.MaxRight, -impl.MaxRight
			if !impl.IsProblem(p) {
				t.Errorf("IsProblem(%v) = false", p)
			}
		}
	}
	for name, p := range invalidProblems() {
		if impl.IsProblem(p) {
			t.Errorf("IsProblem of %s = true", name)
		}
	}
}

// TestInvalidProblems gives the other arguments out of range too, as ErrInvalid comes first.
func TestInvalidProblems(t *testing.T) {
	for name, p := range invalidProblems() {
		for _, s := range []int64{0, 1, -1, 64, greatestInt} {
			if rows, code := impl.ColumnsOf(p, s); len(rows) != 0 || code != impl.ErrInvalid {
				t.Errorf("ColumnsOf of %s = %v, %d", name, rows, code)
			}
			if n, code := impl.DeterminantOf(p, s); n != 0 || code != impl.ErrInvalid {
				t.Errorf("DeterminantOf of %s = %d, %d", name, n, code)
			}
			if point, code := impl.PointOf(p, s); len(point) != 0 || code != impl.ErrInvalid {
				t.Errorf("PointOf of %s = %v, %d", name, point, code)
			}
			if q, code := impl.ScaleRow(p, s, s); !isZeroProblem(q) || code != impl.ErrInvalid {
				t.Errorf("ScaleRow of %s = %v, %d", name, q, code)
			}
		}
		for _, z := range [][]frac{nil, {}, wholes(0), wholes(1, 2, 3), {{}}} {
			if w, code := impl.RemainderOf(p, z); len(w) != 0 || code != impl.ErrInvalid {
				t.Errorf("RemainderOf of %s = %v, %d", name, w, code)
			}
			if yes, code := impl.IsSolution(p, z); yes || code != impl.ErrInvalid {
				t.Errorf("IsSolution of %s = %v, %d", name, yes, code)
			}
		}
		for _, list := range [][]int64{nil, {}, {0}, {1, 0}, {7}} {
			if q, code := impl.RenumberProblem(p, list); !isZeroProblem(q) || code != impl.ErrInvalid {
				t.Errorf("RenumberProblem of %s = %v, %d", name, q, code)
			}
		}
		if text, code := impl.ProblemText(p); text != "" || code != impl.ErrInvalid {
			t.Errorf("ProblemText of %s = %q, %d", name, text, code)
		}
	}
}

func isZeroProblem(p problem) bool {
	return len(p.M) == 0 && len(p.Q) == 0
}

func TestColumnsOf(t *testing.T) {
	p := mustParse(t, "2,1;1,2/-5,-6")
	q := mustParse(t, "1,-2,3;-4,5,-6;7,-8,9/1,2,3")
	for _, c := range []struct {
		p    problem
		s    int64
		want [][]int64
	}{
		{p, 0, [][]int64{{1, 0}, {0, 1}}},
		{p, 1, [][]int64{{-2, 0}, {-1, 1}}},
		{p, 2, [][]int64{{1, -1}, {0, -2}}},
		{p, 3, [][]int64{{-2, -1}, {-1, -2}}},
		{q, 0, [][]int64{{1, 0, 0}, {0, 1, 0}, {0, 0, 1}}},
		{q, 4, [][]int64{{1, 0, -3}, {0, 1, 6}, {0, 0, -9}}},
		{q, 5, [][]int64{{-1, 0, -3}, {4, 1, 6}, {-7, 0, -9}}},
		{q, 7, [][]int64{{-1, 2, -3}, {4, -5, 6}, {-7, 8, -9}}},
	} {
		if rows, code := impl.ColumnsOf(c.p, c.s); !reflect.DeepEqual(rows, c.want) || code != impl.ErrNone {
			t.Errorf("ColumnsOf(%v, %d) = %v, %d", c.p, c.s, rows, code)
		}
	}
}

func TestSetsOutOfRange(t *testing.T) {
	for n := 1; n <= impl.MaxSize; n++ {
		// With M of zeros alone a set in range would have other results.
		p := squareOf(n, 0)
		for _, s := range []int64{-1, 1 << n, 1<<n + 1, 64, 1 << 32, leastInt, greatestInt} {
			if rows, code := impl.ColumnsOf(p, s); len(rows) != 0 || code != impl.ErrRange {
				t.Errorf("ColumnsOf(size %d, %d) = %v, %d", n, s, rows, code)
			}
			if d, code := impl.DeterminantOf(p, s); d != 0 || code != impl.ErrRange {
				t.Errorf("DeterminantOf(size %d, %d) = %d, %d", n, s, d, code)
			}
			if point, code := impl.PointOf(p, s); len(point) != 0 || code != impl.ErrRange {
				t.Errorf("PointOf(size %d, %d) = %v, %d", n, s, point, code)
			}
		}
		if d, code := impl.DeterminantOf(p, 1<<n-1); d != 0 || code != impl.ErrNone {
			t.Errorf("DeterminantOf(size %d, all) = %d, %d", n, d, code)
		}
		if point, code := impl.PointOf(p, 1<<n-1); len(point) != 0 || code != impl.ErrState {
			t.Errorf("PointOf(size %d, all) = %v, %d", n, point, code)
		}
	}
}

func TestDeterminantOf(t *testing.T) {
	for _, c := range []struct {
		text string
		s    int64
		want int64
	}{
		{"2,1;1,2/-5,-6", 0, 1},
		{"2,1;1,2/-5,-6", 1, -2},
		{"2,1;1,2/-5,-6", 2, -2},
		{"2,1;1,2/-5,-6", 3, 3},
		{"7/1", 1, -7},
		{"0/1", 1, 0},
		{"0,1;1,0/0,0", 3, -1},
		{"0,0,1;1,0,0;0,1,0/0,0,0", 7, -1},
		{"1,2;2,4/0,0", 3, 0},
		{"20,20,20,20,20;20,-20,20,20,-20;20,20,-20,20,-20;20,20,20,-20,-20;20,-20,-20,-20,20/0,0,0,0,0", 31, 153600000},
	} {
		if got, code := impl.DeterminantOf(mustParse(t, c.text), c.s); got != c.want || code != impl.ErrNone {
			t.Errorf("DeterminantOf(%q, %d) = %d, %d", c.text, c.s, got, code)
		}
	}
}

func TestPointOf(t *testing.T) {
	for _, c := range []struct {
		text string
		s    int64
		want string
	}{
		{"2,1;1,2/-5,-6", 0, "-5 -6"},
		{"2,1;1,2/-5,-6", 1, "5/2 -7/2"},
		{"2,1;1,2/-5,-6", 2, "-2 3"},
		{"2,1;1,2/-5,-6", 3, "4/3 7/3"},
		{"-20/100", 1, "5"},
		{"0/-100", 0, "-100"},
		{"0,1;1,0/0,4", 3, "-4 0"},
	} {
		point, code := impl.PointOf(mustParse(t, c.text), c.s)
		if textsOf(t, point) != c.want || code != impl.ErrNone {
			t.Errorf("PointOf(%q, %d) = %v, %d", c.text, c.s, point, code)
		}
	}
	for _, c := range []struct {
		text string
		s    int64
	}{{"0/1", 1}, {"0/0", 1}, {"1,2;2,4/1,2", 3}, {"0,1;0,1/1,1", 1}} {
		if point, code := impl.PointOf(mustParse(t, c.text), c.s); len(point) != 0 || code != impl.ErrState {
			t.Errorf("PointOf(%q, %d) = %v, %d", c.text, c.s, point, code)
		}
	}
}

// expanded returns a determinant by expansion along the first row.
func expanded(rows [][]int64) int64 {
	if len(rows) == 0 {
		return 1
	}
	sum, sign := int64(0), int64(1)
	for c, x := range rows[0] {
		rest := [][]int64{}
		for _, row := range rows[1:] {
			rest = append(rest, append(append([]int64{}, row[:c]...), row[c+1:]...))
		}
		sum += sign * x * expanded(rest)
		sign = -sign
	}
	return sum
}

// TestPointsFulfilEquations is the first part of promise 1.
func TestPointsFulfilEquations(t *testing.T) {
	for _, p := range someProblems(150) {
		for _, s := range allSets(len(p.M)) {
			rows, code := impl.ColumnsOf(p, s)
			if code != impl.ErrNone {
				t.Fatalf("ColumnsOf(%v, %d): code %d", p, s, code)
			}
			d, code := impl.DeterminantOf(p, s)
			if d != expanded(rows) || code != impl.ErrNone {
				t.Errorf("DeterminantOf(%v, %d) = %d, %d", p, s, d, code)
			}
			point, code := impl.PointOf(p, s)
			if d == 0 {
				if len(point) != 0 || code != impl.ErrState {
					t.Errorf("PointOf(%v, %d) = %v, %d", p, s, point, code)
				}
				continue
			}
			if len(point) != len(p.M) || code != impl.ErrNone {
				t.Fatalf("PointOf(%v, %d) = %v, %d", p, s, point, code)
			}
			checkEquations(t, p, s, point)
		}
	}
}

// checkEquations reads the equations of a set from the problem itself.
func checkEquations(t *testing.T, p problem, s int64, point []frac) {
	t.Helper()
	for k := range p.M {
		sum := new(big.Rat)
		for i, x := range point {
			factor := int64(0)
			if s>>i&1 == 1 {
				factor = -p.M[k][i]
			} else if i == k {
				factor = 1
			}
			sum.Add(sum, new(big.Rat).Mul(ratOf(x), big.NewRat(factor, 1)))
			if !impl.IsFrac(x) {
				t.Errorf("PointOf(%v, %d) has %v", p, s, x)
			}
		}
		if sum.Cmp(big.NewRat(p.Q[k], 1)) != 0 {
			t.Errorf("PointOf(%v, %d) = %v does not fulfil the row %d", p, s, point, k)
		}
	}
}

// splitPoint returns z and w of a point, and whether no number is less than 0.
func splitPoint(s int64, point []frac) ([]frac, []frac, bool) {
	z, w := wholes(), wholes()
	feasible := true
	for i, x := range point {
		zero := frac{Num: 0, Den: 1}
		if s>>i&1 == 1 {
			z, w = append(z, x), append(w, zero)
		} else {
			z, w = append(z, zero), append(w, x)
		}
		feasible = feasible && x.Num >= 0
	}
	return z, w, feasible
}

// TestFeasiblePointsAreSolutions is the second part of promise 1, and that other points are none.
func TestFeasiblePointsAreSolutions(t *testing.T) {
	count := 0
	for _, p := range someProblems(600) {
		for _, s := range allSets(len(p.M)) {
			point, code := impl.PointOf(p, s)
			if code != impl.ErrNone {
				continue
			}
			z, w, feasible := splitPoint(s, point)
			got, code := impl.RemainderOf(p, z)
			if code == impl.ErrLimit {
				continue
			}
			if !slices.Equal(got, w) || code != impl.ErrNone {
				t.Errorf("RemainderOf(%v, %v) = %v, %d, want %v", p, z, got, code, w)
			}
			yes, code := impl.IsSolution(p, z)
			if yes != feasible || code != impl.ErrNone {
				t.Errorf("IsSolution(%v, %v) = %v, %d", p, z, yes, code)
			}
			if feasible {
				count++
			}
		}
	}
	if count < 300 {
		t.Errorf("only %d feasible points", count)
	}
}

func TestRemainderOf(t *testing.T) {
	for _, c := range []struct {
		text string
		z    []frac
		want string
	}{
		{"2,1;1,2/-5,-6", wholes(0, 0), "-5 -6"},
		{"2,1;1,2/-5,-6", wholes(1, 1), "-2 -3"},
		{"2,1;1,2/-5,-6", wholes(-1, 3), "-4 -1"},
		{"2,1;1,2/-5,-6", []frac{{Num: 4, Den: 3}, {Num: 7, Den: 3}}, "0 0"},
		{"2,1;1,2/-5,-6", []frac{{Num: 1, Den: 2}, {Num: 1, Den: 3}}, "-11/3 -29/6"},
		{"1,2;3,4/5,6", []frac{{Num: 1, Den: 2}, {Num: -1, Den: 2}}, "9/2 11/2"},
		{"0/100", []frac{{Num: -impl.MaxFrac, Den: 1}}, "100"},
		{"1/0", []frac{{Num: impl.MaxFrac, Den: 1}}, "1000000000"},
		{"-1/0", []frac{{Num: impl.MaxFrac, Den: 1}}, "-1000000000"},
		{"1/1", []frac{{Num: 1 - impl.MaxFrac, Den: impl.MaxFrac}}, "1/1000000000"},
	} {
		w, code := impl.RemainderOf(mustParse(t, c.text), c.z)
		if textsOf(t, w) != c.want || code != impl.ErrNone {
			t.Errorf("RemainderOf(%q, %v) = %v, %d", c.text, c.z, w, code)
		}
	}
}

// TestCommonLimits has lists just at the limits for fractions with one denominator, and beyond.
func TestCommonLimits(t *testing.T) {
	p := mustParse(t, "0,0;0,0/0,3")
	for _, c := range []struct {
		name string
		z    []frac
		code int64
	}{
		// 512 times 1953125 is MaxFrac, 1001 times 999001 is MaxFrac + 1.
		{"den at the limit", []frac{{Num: 1, Den: 512}, {Num: 1, Den: 1953125}}, impl.ErrNone},
		{"den beyond", []frac{{Num: 1, Den: 1001}, {Num: 1, Den: 999001}}, impl.ErrLimit},
		{"den far beyond", []frac{{Num: 0, Den: 1}, {Num: 1, Den: 999999999}, {Num: 1, Den: 1000000000}}[1:], impl.ErrLimit},
		{"same den twice", []frac{{Num: 1, Den: impl.MaxFrac}, {Num: 3, Den: impl.MaxFrac}}, impl.ErrNone},
		{"num at the limit", []frac{{Num: impl.MaxFrac, Den: 1}, {Num: 1, Den: 1000}}, impl.ErrNone},
		{"num at the limit below", []frac{{Num: -impl.MaxFrac, Den: 1}, {Num: 1, Den: 1000}}, impl.ErrNone},
		// 99990001 times 10001 is 1000000000001.
		{"num beyond", []frac{{Num: 99990001, Den: 1}, {Num: 1, Den: 10001}}, impl.ErrLimit},
		{"num beyond below", []frac{{Num: 1, Den: 10001}, {Num: -99990001, Den: 1}}, impl.ErrLimit},
		{"num far beyond", []frac{{Num: impl.MaxFrac, Den: 1}, {Num: 1, Den: impl.MaxFrac}}, impl.ErrLimit},
	} {
		w, code := impl.RemainderOf(p, c.z)
		if code != c.code || code == impl.ErrNone && textsOf(t, w) != "0 3" || code != impl.ErrNone && len(w) != 0 {
			t.Errorf("%s: RemainderOf = %v, %d", c.name, w, code)
		}
		if yes, code := impl.IsSolution(p, c.z); yes || code != c.code {
			t.Errorf("%s: IsSolution = %v, %d", c.name, yes, code)
		}
	}
	// Each product fits, but the least common denominator of all five does not.
	five := squareOf(5, 1)
	z := []frac{{Num: 1, Den: 999999937}, {Num: 1, Den: 999999929}, {Num: 1, Den: 999999893}, {Num: 1, Den: 999999883}, {Num: 1, Den: 999999797}}
	if w, code := impl.RemainderOf(five, z); len(w) != 0 || code != impl.ErrLimit {
		t.Errorf("RemainderOf = %v, %d", w, code)
	}
	if yes, code := impl.IsSolution(five, z); yes || code != impl.ErrLimit {
		t.Errorf("IsSolution = %v, %d", yes, code)
	}
}

// TestRemaindersBeyondLimits: a remainder beyond the limits is an error of RemainderOf alone.
func TestRemaindersBeyondLimits(t *testing.T) {
	for _, c := range []struct {
		text string
		z    []frac
		want bool
	}{
		{"1/1", wholes(impl.MaxFrac), false},
		{"-1/-1", wholes(impl.MaxFrac), false},
		{"0,0;20,0/0,5", wholes(impl.MaxFrac, 0), true},
		{"0,0;-20,0/0,5", wholes(impl.MaxFrac, 0), false},
		{"0,0,0;0,0,0;20,20,0/0,0,1", []frac{{Num: impl.MaxFrac, Den: 1}, {Num: 1, Den: 1000}, {Num: 0, Den: 1}}, true},
		{"20,20,20,20,20;0,0,0,0,0;0,0,0,0,0;0,0,0,0,0;0,0,0,0,0/100,0,0,0,0", []frac{{Num: 999999999, Den: 1}, {Num: 1000000000, Den: 1}, {Num: 1000000000, Den: 1}, {Num: 1000000000, Den: 1}, {Num: 1, Den: 1000}}, false},
	} {
		p := mustParse(t, c.text)
		if w, code := impl.RemainderOf(p, c.z); len(w) != 0 || code != impl.ErrLimit {
			t.Errorf("RemainderOf(%q, %v) = %v, %d", c.text, c.z, w, code)
		}
		if yes, code := impl.IsSolution(p, c.z); yes != c.want || code != impl.ErrNone {
			t.Errorf("IsSolution(%q, %v) = %v, %d", c.text, c.z, yes, code)
		}
	}
}

func TestIsSolution(t *testing.T) {
	for _, c := range []struct {
		text string
		z    []frac
		want bool
	}{
		{"2,1;1,2/-5,-6", []frac{{Num: 4, Den: 3}, {Num: 7, Den: 3}}, true},
		{"2,1;1,2/-5,-6", wholes(3, 3), false},
		{"2,1;1,2/-5,-6", wholes(0, 0), false},
		{"2,1;1,2/5,6", wholes(0, 0), true},
		{"2,1;1,2/5,6", wholes(0, -1), false},
		// A z less than 0 where the remainder is 0.
		{"1/1", wholes(-1), false},
		{"1/-1", wholes(1), true},
		// A remainder less than 0 where z is 0.
		{"1,-1;0,1/0,-1", wholes(0, 1), false},
		{"1,-1;0,1/1,-1", wholes(0, 1), true},
		{"0/0", wholes(12), true},
		{"0/1", wholes(12), false},
		{"3/-1", []frac{{Num: 1, Den: 3}}, true},
	} {
		if yes, code := impl.IsSolution(mustParse(t, c.text), c.z); yes != c.want || code != impl.ErrNone {
			t.Errorf("IsSolution(%q, %v) = %v, %d", c.text, c.z, yes, code)
		}
	}
}

// TestListsOfFractions: no fraction comes before a wrong number of them, and both before limits.
func TestListsOfFractions(t *testing.T) {
	p := mustParse(t, "2,1;1,2/-5,-6")
	check := func(z []frac, want int64) {
		t.Helper()
		if w, code := impl.RemainderOf(p, z); len(w) != 0 || code != want {
			t.Errorf("RemainderOf(%v) = %v, %d", z, w, code)
		}
		if yes, code := impl.IsSolution(p, z); yes || code != want {
			t.Errorf("IsSolution(%v) = %v, %d", z, yes, code)
		}
	}
	for _, bad := range invalidFracs() {
		check([]frac{bad, {Num: 1, Den: 1}}, impl.ErrInvalid)
		check([]frac{{Num: 1, Den: 1}, bad}, impl.ErrInvalid)
		check([]frac{bad}, impl.ErrInvalid)
		check([]frac{{Num: 1, Den: 1}, {Num: 1, Den: 1}, bad}, impl.ErrInvalid)
		check([]frac{{Num: 1, Den: 999999999}, {Num: 1, Den: 1000000000}, bad}, impl.ErrInvalid)
	}
	check(nil, impl.ErrRange)
	check([]frac{}, impl.ErrRange)
	check(wholes(1), impl.ErrRange)
	check(wholes(1, 2, 3), impl.ErrRange)
	check([]frac{{Num: 1, Den: 999999999}, {Num: 1, Den: 1000000000}, {Num: 0, Den: 1}}, impl.ErrRange)
}

func TestRenumberProblem(t *testing.T) {
	for _, c := range []struct {
		text, want string
		list       []int64
	}{
		{"1,2;3,4/5,6", "4,3;2,1/6,5", []int64{1, 0}},
		{"1,2;3,4/5,6", "1,2;3,4/5,6", []int64{0, 1}},
		{"7/8", "7/8", []int64{0}},
		{"1,2,3;4,5,6;7,8,9/10,11,12", "9,7,8;3,1,2;6,4,5/12,10,11", []int64{1, 2, 0}},
	} {
		q, code := impl.RenumberProblem(mustParse(t, c.text), c.list)
		if text, _ := impl.ProblemText(q); text != c.want || code != impl.ErrNone {
			t.Errorf("RenumberProblem(%q, %v) = %v, %d", c.text, c.list, q, code)
		}
	}
	p := mustParse(t, "1,2;3,4/5,6")
	for _, list := range [][]int64{
		nil, {}, {0}, {0, 0}, {1, 1}, {1, 2}, {0, 2}, {-1, 0}, {0, -1}, {0, 1, 2}, {0, 1, 1}, {0, 1, 0},
		{leastInt, 0}, {0, greatestInt}, {1 << 32, 1},
	} {
		if q, code := impl.RenumberProblem(p, list); !isZeroProblem(q) || code != impl.ErrRange {
			t.Errorf("RenumberProblem(%v) = %v, %d", list, q, code)
		}
	}
}

func TestScaleRow(t *testing.T) {
	for _, c := range []struct {
		text string
		i, k int64
		want string
	}{
		{"2,1;1,2/-5,-6", 1, 3, "2,1;3,6/-5,-18"},
		{"2,1;1,2/-5,-6", 0, 1, "2,1;1,2/-5,-6"},
		{"2,1;1,2/-5,-6", 0, 10, "20,10;1,2/-50,-6"},
		{"2,1;1,2/-10,-6", 0, 10, "20,10;1,2/-100,-6"},
		{"0/1", 0, 100, "0/100"},
		{"0/-1", 0, 100, "0/-100"},
		{"-1/5", 0, 20, "-20/100"},
	} {
		q, code := impl.ScaleRow(mustParse(t, c.text), c.i, c.k)
		if text, _ := impl.ProblemText(q); text != c.want || code != impl.ErrNone {
			t.Errorf("ScaleRow(%q, %d, %d) = %v, %d", c.text, c.i, c.k, q, code)
		}
	}
	for _, c := range []struct {
		text       string
		i, k, want int64
	}{
		{"2,1;1,2/-5,-6", 0, 11, impl.ErrLimit},
		{"1,2;1,2/-5,-6", 0, 11, impl.ErrLimit},
		{"1/-5", 0, 21, impl.ErrLimit},
		{"-1/4", 0, 21, impl.ErrLimit},
		{"0/100", 0, 2, impl.ErrLimit},
		{"0/-51", 0, 2, impl.ErrLimit},
		{"20/100", 0, 100, impl.ErrLimit},
		{"0/0", 0, 0, impl.ErrRange},
		{"0/0", 0, 101, impl.ErrRange},
		{"20/100", 0, 101, impl.ErrRange},
		{"0/0", 0, -1, impl.ErrRange},
		{"0/0", -1, 1, impl.ErrRange},
		{"0/0", 1, 1, impl.ErrRange},
		{"20/100", 1, 100, impl.ErrRange},
		{"2,1;1,2/-5,-6", 2, 1, impl.ErrRange},
		{"0/0", leastInt, 1, impl.ErrRange},
		{"0/0", greatestInt, 1, impl.ErrRange},
		{"0/0", 0, leastInt, impl.ErrRange},
		{"0/0", 0, greatestInt, impl.ErrRange},
		{"1/1", 1 << 32, 1, impl.ErrRange},
	} {
		if q, code := impl.ScaleRow(mustParse(t, c.text), c.i, c.k); !isZeroProblem(q) || code != c.want {
			t.Errorf("ScaleRow(%q, %d, %d) = %v, %d", c.text, c.i, c.k, q, code)
		}
	}
}

// TestSameSolutions: problems renumbered and scaled have the same solutions up to order.
func TestSameSolutions(t *testing.T) {
	source := rand.New(rand.NewSource(3))
	for _, p := range someProblems(200) {
		n := len(p.M)
		list := []int64{}
		for _, to := range source.Perm(n) {
			list = append(list, int64(to))
		}
		moved, code := impl.RenumberProblem(p, list)
		if code != impl.ErrNone || !impl.IsProblem(moved) {
			t.Fatalf("RenumberProblem(%v, %v): code %d", p, list, code)
		}
		scaled, scaleCode := impl.ScaleRow(p, int64(source.Intn(n)), 2)
		for _, s := range allSets(n) {
			point, code := impl.PointOf(p, s)
			if code != impl.ErrNone {
				continue
			}
			z, _, _ := splitPoint(s, point)
			movedZ := make([]frac, n)
			for i, to := range list {
				movedZ[to] = z[i]
			}
			checkSameAnswer(t, p, z, moved, movedZ)
			if scaleCode == impl.ErrNone {
				checkSameAnswer(t, p, z, scaled, z)
			}
		}
	}
}

func checkSameAnswer(t *testing.T, p problem, z []frac, q problem, y []frac) {
	t.Helper()
	want, code := impl.IsSolution(p, z)
	if got, again := impl.IsSolution(q, y); got != want || again != code {
		t.Errorf("IsSolution(%v, %v) = %v, but (%v, %v) = %v", p, z, want, q, y, got)
	}
}

func TestProblemText(t *testing.T) {
	for text, p := range map[string]problem{
		"0/0":           {M: [][]int64{{0}}, Q: []int64{0}},
		"-20/100":       {M: [][]int64{{-20}}, Q: []int64{100}},
		"2,1;1,2/-5,-6": {M: [][]int64{{2, 1}, {1, 2}}, Q: []int64{-5, -6}},
		"1,1,1,1,1;1,1,1,1,1;1,1,1,1,1;1,1,1,1,1;1,1,1,1,1/1,1,1,1,1": squareOf(5, 1),
	} {
		if got, code := impl.ProblemText(p); got != text || code != impl.ErrNone {
			t.Errorf("ProblemText(%v) = %q, %d", p, got, code)
		}
		if got, code := impl.ParseProblem(text); !reflect.DeepEqual(got, p) || code != impl.ErrNone {
			t.Errorf("ParseProblem(%q) = %v, %d", text, got, code)
		}
	}
}

// TestProblemsComeBack is the third part of promise 1.
func TestProblemsComeBack(t *testing.T) {
	list := someProblems(500)
	for n := 1; n <= impl.MaxSize; n++ {
		p := squareOf(n, -impl.MaxEntry)
		p.Q[0] = -impl.MaxRight
		list = append(list, squareOf(n, 0), squareOf(n, impl.MaxEntry), p)
	}
	for _, p := range list {
		text, code := impl.ProblemText(p)
		if code != impl.ErrNone {
			t.Fatalf("ProblemText(%v): code %d", p, code)
		}
		if q, code := impl.ParseProblem(text); !reflect.DeepEqual(p, q) || code != impl.ErrNone {
			t.Errorf("ParseProblem(%q) = %v, %d", text, q, code)
		}
	}
}

func TestParseProblemRefuses(t *testing.T) {
	six, _ := strings.CutSuffix(strings.Repeat("1,1,1,1,1,1;", 6), ";")
	for _, text := range []string{
		"", "/", "1", "1/", "/1", "//", "1//1", "1/1/", "/1/1", "1/1/1", "a/1", "1/a", ";/", ",/,", "1;/1", ";1/1",
		"1,/1", ",1/1", "1/1,", "1/,1", "1,2/3", "1;2/3", "1;2/3,4", "1,2;3/4,5", "1,2;3,4/5", "1,2;3,4/5,6,7",
		"1,2;3,4;/5,6", "1,2;3,4;5,6/7,8", "1,2/3,4", "1,2;3,4/5;6", six + "/1,1,1,1,1,1",
		"21/0", "-21/0", "1/101", "1/-101", "01/1", "1/01", "00/1", "-0/1", "1/-0", "-01/1", "--1/1", "+1/1", "1/+1",
		" 1/1", "1 /1", "1/ 1", "1/1 ", "1/1\n", "\n1/1", "1/1\r", "1/1\x00", "1\t/1", "1_0/1", "0x1/1", "1e1/1",
		"1.0/1", "1/1.", "-/1", "1/-", "\u0661/1", "\uff11/1", "\u22121/1", "1\uff0f1", "1/1;", "1:1",
		"9223372036854775807/1", "9223372036854775808/1", "-9223372036854775808/1", "18446744073709551617/1",
		"1/18446744073709551617", "1/" + strings.Repeat("9", 1000), strings.Repeat("1,", 10000) + "1/1", "\xff/1",
		strings.Repeat("0", 1000) + "1/1", strings.Repeat(";", 1000) + "/", "1,2;3,4/5,6/", "2,1;1,2\\-5,-6",
	} {
		if p, code := impl.ParseProblem(text); !isZeroProblem(p) || code != impl.ErrSyntax {
			t.Errorf("ParseProblem(%q) = %v, %d", text, p, code)
		}
	}
}

// TestParseProblemOfChangedTexts changes a byte of texts and compares with their grammar.
func TestParseProblemOfChangedTexts(t *testing.T) {
	entry, right := `(0|-?([1-9]|1[0-9]|20))`, `(0|-?([1-9][0-9]?|100))`
	one := regexp.MustCompile(`\A` + entry + "/" + right + `\z`)
	row := entry + "," + entry
	two := regexp.MustCompile(`\A` + row + ";" + row + "/" + right + "," + right + `\z`)
	const bytes = "0129-,;/ +"
	for _, text := range []string{"7/8", "0/0", "-20/100", "2,1;1,2/-5,-6", "0,-10;20,0/-100,10"} {
		for i := range len(text) + 1 {
			for _, b := range []byte(bytes) {
				for _, changed := range []string{text[:i] + string(b) + text[min(i+1, len(text)):], text[:i] + string(b) + text[i:], text[:i] + text[min(i+1, len(text)):]} {
					p, code := impl.ParseProblem(changed)
					if !one.MatchString(changed) && !two.MatchString(changed) {
						if !isZeroProblem(p) || code != impl.ErrSyntax {
							t.Errorf("ParseProblem(%q) = %v, %d", changed, p, code)
						}
						continue
					}
					if again, textCode := impl.ProblemText(p); again != changed || code != impl.ErrNone || textCode != impl.ErrNone {
						t.Errorf("ParseProblem(%q) = %v, %d", changed, p, code)
					}
				}
			}
		}
	}
}

// TestArgumentsStay: nothing changes an argument, or what is behind it.
func TestArgumentsStay(t *testing.T) {
	p, same := guardedProblem(mustParse(t, "2,1;1,2/-5,-6"))
	z, sameZ := guarded([]frac{{Num: 4, Den: 3}, {Num: 7, Den: 3}}, frac{Num: 5, Den: 1})
	list, sameList := guarded([]int64{1, 0}, 55)
	impl.IsProblem(p)
	for _, s := range []int64{0, 1, 2, 3, 4} {
		impl.ColumnsOf(p, s)
		impl.DeterminantOf(p, s)
		impl.PointOf(p, s)
	}
	impl.RemainderOf(p, z)
	impl.IsSolution(p, z)
	impl.RenumberProblem(p, list)
	impl.ScaleRow(p, 0, 2)
	impl.ScaleRow(p, 0, 100)
	impl.ProblemText(p)
	if !same() || !sameZ() || !sameList() {
		t.Errorf("an argument has been changed")
	}
}

// TestResultsAreNew writes into results, also behind them, and looks at arguments and neighbours.
func TestResultsAreNew(t *testing.T) {
	p := mustParse(t, "2,1;1,2/-5,-6")
	rows, _ := impl.ColumnsOf(p, 0)
	spoilRows(t, "ColumnsOf", rows)
	for _, f := range []func() (problem, int64){
		func() (problem, int64) { return impl.RenumberProblem(p, []int64{0, 1}) },
		func() (problem, int64) { return impl.ScaleRow(p, 0, 1) },
		func() (problem, int64) { return impl.ParseProblem("2,1;1,2/-5,-6") },
	} {
		q, code := f()
		if code != impl.ErrNone || !reflect.DeepEqual(q, p) {
			t.Fatalf("result = %v, %d", q, code)
		}
		spoilRows(t, "problem", append(q.M, q.Q))
	}
	if text, _ := impl.ProblemText(p); text != "2,1;1,2/-5,-6" {
		t.Errorf("the argument is now %q", text)
	}
	z := wholes(0, 0)
	w, _ := impl.RemainderOf(p, z)
	w[0], w[1] = frac{Num: 9, Den: 1}, frac{Num: 9, Den: 1}
	if textsOf(t, z) != "0 0" {
		t.Errorf("the argument is now %v", z)
	}
}

// TestNoState: calls in between, also those with errors, change no result.
func TestNoState(t *testing.T) {
	p := mustParse(t, "2,1;1,2/-5,-6")
	first, _ := impl.PointOf(p, 3)
	impl.PointOf(problem{}, 3)
	impl.PointOf(p, 9)
	impl.RemainderOf(p, first)
	second, code := impl.PointOf(p, 3)
	if !slices.Equal(first, second) || code != impl.ErrNone {
		t.Errorf("PointOf = %v, then %v, %d", first, second, code)
	}
}
