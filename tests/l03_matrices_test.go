package tests

import (
	"math/big"
	"math/bits"
	"math/rand"
	"reflect"
	"slices"
	"strconv"
	"strings"
	"testing"

	"loop.example/g01343/impl"
)

type rows = [][]int64

// rowsOf returns the rows with a text like that of a problem.
func rowsOf(text string) rows {
	result := rows{}
	for line := range strings.SplitSeq(text, ";") {
		row := []int64{}
		for word := range strings.SplitSeq(line, ",") {
			x, err := strconv.ParseInt(word, 10, 64)
			if err != nil {
				panic("no number: " + word)
			}
			row = append(row, x)
		}
		result = append(result, row)
	}
	return result
}

// hornRows is copositive, but neither strictly so nor the sum of a semidefinite matrix and one with
// numbers of at least 0.
const hornRows = "1,-1,1,1,-1;-1,1,-1,1,1;1,-1,1,-1,1;1,1,-1,1,-1;-1,1,1,-1,1"

// greatRows has the greatest determinant of all matrices of 5: 48 times 20 to the power of 5.
const greatRows = "-20,20,20,20,20;20,-20,20,20,20;20,20,-20,20,20;20,20,20,-20,20;20,20,20,20,-20"

// invalidMatrices has rows that break one condition each.
func invalidMatrices() map[string]rows {
	return map[string]rows{
		"nil":            nil,
		"empty":          {},
		"nil row":        {nil},
		"empty row":      {{}},
		"two nil rows":   {nil, nil},
		"row too few":    {{1, 2}},
		"row too many":   {{1}, {1}},
		"short first":    {{1}, {3, 4}},
		"short last":     {{1, 2}, {3}},
		"long first":     {{1, 2, 3}, {3, 4}},
		"long last":      {{1, 2}, {3, 4, 5}},
		"nil last":       {{1, 2}, nil},
		"empty last":     {{1, 2}, {}},
		"size 6":         squareOf(6, 1).M,
		"size 7":         squareOf(7, 0).M,
		"entry above":    {{1, 2}, {21, 4}},
		"entry below":    {{1, -21}, {1, 4}},
		"first above":    {{21, 0}, {0, 0}},
		"last below":     {{0, 0, 0}, {0, 0, 0}, {0, 0, -21}},
		"entry least":    {{leastInt}},
		"entry greatest": {{0, greatestInt}, {0, 0}},
		"least plus one": {{leastInt + 1}},
	}
}

// someMatrices returns the same matrices at each call, of all sizes and of many kinds.
func someMatrices(count int) []rows {
	source := rand.New(rand.NewSource(6))
	list := []rows{}
	for i := range count {
		n := i%impl.MaxSize + 1
		entry := []int64{1, 2, 4, impl.MaxEntry}[source.Intn(4)]
		lift := source.Int63n(2 * entry)
		m := squareOf(n, 0).M
		for r := range n {
			for c := range n {
				m[r][c] = source.Int63n(2*entry+1) - entry
				if i%3 == 1 && r != c {
					m[r][c] = -max(m[r][c], -m[r][c]) / 2
				}
				if i%4 >= 2 && c < r {
					m[r][c] = m[c][r]
				}
				if i%11 == 0 && c > r {
					m[r][c] = 0
				}
			}
			m[r][r] = min(m[r][r]+lift, impl.MaxEntry)
		}
		list = append(list, m)
	}
	return list
}

// laplace develops a determinant by its first row, apart from the program.
func laplace(m rows) int64 {
	if len(m) == 0 {
		return 1
	}
	sum, sign := int64(0), int64(1)
	for c, x := range m[0] {
		rest := rows{}
		for _, row := range m[1:] {
			rest = append(rest, slices.Delete(slices.Clone(row), c, c+1))
		}
		sum += sign * x * laplace(rest)
		sign = -sign
	}
	return sum
}

// chosen returns the rows of one set and the columns of another one.
func chosen(m rows, rowSet, columnSet int64) rows {
	result := rows{}
	for i := range m {
		row := []int64{}
		for k := range m {
			if columnSet>>k&1 == 1 {
				row = append(row, m[i][k])
			}
		}
		if rowSet>>i&1 == 1 {
			result = append(result, row)
		}
	}
	return result
}

func countOf(s int64) int {
	return bits.OnesCount64(uint64(s))
}

// twice returns twice the symmetric part.
func twice(m rows) rows {
	result := squareOf(len(m), 0).M
	for i := range m {
		for k := range m {
			result[i][k] = m[i][k] + m[k][i]
		}
	}
	return result
}

// compared returns the comparison matrix.
func compared(m rows) rows {
	result := squareOf(len(m), 0).M
	for i := range m {
		for k, x := range m[i] {
			result[i][k] = -max(x, -x)
		}
		result[i][i] = -result[i][i]
	}
	return result
}

// ratRows returns rows of fractions, with a number taken off each one.
func ratRows(m rows, less *big.Rat) [][]*big.Rat {
	result := [][]*big.Rat{}
	for _, row := range m {
		list := []*big.Rat{}
		for _, x := range row {
			list = append(list, new(big.Rat).Sub(big.NewRat(x, 1), less))
		}
		result = append(result, list)
	}
	return result
}

// withoutFirst returns the rows and columns but the first ones, and the same after elimination by
// the first number.
func withoutFirst(m [][]*big.Rat) ([][]*big.Rat, [][]*big.Rat) {
	plain, eliminated := [][]*big.Rat{}, [][]*big.Rat{}
	for _, row := range m[1:] {
		list := []*big.Rat{}
		for k := range row[1:] {
			x := new(big.Rat)
			if m[0][0].Sign() != 0 {
				x.Quo(new(big.Rat).Mul(row[0], m[0][k+1]), m[0][0])
			}
			list = append(list, x.Sub(row[k+1], x))
		}
		plain = append(plain, row[1:])
		eliminated = append(eliminated, list)
	}
	return plain, eliminated
}

// exactP asks the first number, the rest, and the rest after elimination, instead of minors.
func exactP(m [][]*big.Rat) bool {
	if len(m) == 0 {
		return true
	}
	plain, eliminated := withoutFirst(m)
	return m[0][0].Sign() > 0 && exactP(plain) && exactP(eliminated)
}

// exactP0: a matrix is P0 exactly if it is P with each number greater than 0 added at i, i, here
// one so small that no minor (a whole number) changes its sign from below 0.
func exactP0(m rows) bool {
	lifted := ratRows(m, new(big.Rat))
	for i := range lifted {
		lifted[i][i].Add(lifted[i][i], big.NewRat(1, 1000000000000))
	}
	return exactP(lifted)
}

// exactForm eliminates in a symmetric matrix, and reports whether it is definite and semidefinite.
func exactForm(m [][]*big.Rat) (bool, bool) {
	if len(m) == 0 {
		return true, true
	}
	if m[0][0].Sign() < 0 {
		return false, false
	}
	_, eliminated := withoutFirst(m)
	definite, semidefinite := exactForm(eliminated)
	if m[0][0].Sign() > 0 {
		return definite, semidefinite
	}
	for _, x := range m[0] {
		semidefinite = semidefinite && x.Sign() == 0
	}
	return false, semidefinite
}

// exactCopositive: if a form is less than 0 somewhere, it is so at its least point in some face of
// the simplex, the part of which is regular, and there all solutions of part times u = 1 are at
// most 0. The converse holds too: the form at -u is the sum of u.
func exactCopositive(m rows, less *big.Rat) bool {
	for _, s := range allSets(len(m))[1:] {
		equations := ratRows(chosen(m, s, s), less)
		for i := range equations {
			equations[i] = append(equations[i], big.NewRat(1, 1))
		}
		u := exactSolution(equations)
		if u != nil && !slices.ContainsFunc(u, func(x *big.Rat) bool { return x.Sign() > 0 }) {
			return false
		}
	}
	return true
}

// exactKinds returns the row of kinds, found apart from the program and by other conditions where
// there are any. A strictly copositive form of whole numbers is on the simplex at least a quotient
// of a determinant by a sum of cofactors, far more than what is taken off here.
func exactKinds(m rows) []int64 {
	none := new(big.Rat)
	definite, semidefinite := exactForm(ratRows(twice(m), none))
	z, symmetric, dominant, above, below := true, true, true, true, true
	for i, row := range m {
		sum := int64(0)
		for k, x := range row {
			z = z && (i == k || x <= 0)
			symmetric = symmetric && x == m[k][i]
			above = above && (k <= i || x == 0)
			below = below && (k >= i || x == 0)
			sum += max(x, -x)
		}
		dominant = dominant && 2*max(row[i], -row[i]) > sum
	}
	result := []int64{}
	for _, yes := range []bool{
		exactP(ratRows(m, none)), exactP0(m), z, z && exactP(ratRows(m, none)), exactP(ratRows(compared(m), none)), definite, semidefinite,
		exactCopositive(twice(m), none), exactCopositive(twice(m), big.NewRat(1, 1000000000000)), symmetric, dominant, above || below,
	} {
		number := int64(0)
		if yes {
			number = 1
		}
		result = append(result, number)
	}
	return result
}

func mustKinds(t *testing.T, m rows) []int64 {
	t.Helper()
	row, code := impl.KindsOf(m)
	if len(row) != 12 || code != impl.ErrNone {
		t.Fatalf("KindsOf(%v) = %v, %d", m, row, code)
	}
	return row
}

func TestKindConstants(t *testing.T) {
	got := []int64{
		impl.KindP, impl.KindP0, impl.KindZ, impl.KindK, impl.KindH, impl.KindDefinite, impl.KindSemidefinite, impl.KindCopositive,
		impl.KindStrictly, impl.KindSymmetric, impl.KindDominant, impl.KindTriangular,
	}
	if !slices.Equal(got, []int64{0, 1, 2, 3, 4, 5, 6, 7, 8, 9, 10, 11}) {
		t.Errorf("kinds = %v", got)
	}
}

func TestIsMatrix(t *testing.T) {
	for _, m := range []rows{
		{{0}}, {{20}}, {{-20}}, {{1, 2}, {3, 4}}, squareOf(5, 20).M, squareOf(5, -20).M, squareOf(3, 0).M, rowsOf(greatRows), rowsOf(hornRows),
	} {
		if !impl.IsMatrix(m) {
			t.Errorf("IsMatrix(%v) = false", m)
		}
	}
	for name, m := range invalidMatrices() {
		if impl.IsMatrix(m) {
			t.Errorf("IsMatrix(%s) = true", name)
		}
	}
}

// TestMatricesRejectInvalid looks at the zero values and the code that all functions return beside it. Most
// other arguments given are wrong too: ErrInvalid comes first.
func TestMatricesRejectInvalid(t *testing.T) {
	for name, m := range invalidMatrices() {
		for _, other := range []int64{0, 1, -1, 12, 21, 32, leastInt, greatestInt} {
			minor, a := impl.MinorOf(m, other)
			yes, b := impl.IsOfKind(m, other)
			by, c := impl.MinorBy(m, other, 1)
			added, d := impl.AddMatrices(m, other)
			form, e := impl.FormAt(m, []int64{other})
			if minor != 0 || yes || by != 0 || len(added) != 0 || form != 0 {
				t.Errorf("%s, %d: results %d, %v, %d, %v, %d", name, other, minor, yes, by, added, form)
			}
			if codes := []int64{a, b, c, d, e}; !slices.Equal(codes, slices.Repeat([]int64{impl.ErrInvalid}, 5)) {
				t.Errorf("%s, %d: codes %v", name, other, codes)
			}
		}
		if form, code := impl.FormAt(m, nil); form != 0 || code != impl.ErrInvalid {
			t.Errorf("%s: FormAt = %d, %d", name, form, code)
		}
		for what, f := range map[string]func(rows) ([]int64, int64){"MinorsOf": impl.MinorsOf, "KindsOf": impl.KindsOf, "NegativeSets": impl.NegativeSets} {
			if list, code := f(m); len(list) != 0 || code != impl.ErrInvalid {
				t.Errorf("%s: %s = %v, %d", name, what, list, code)
			}
		}
		for what, f := range map[string]func(rows) (rows, int64){"SymmetricPart": impl.SymmetricPart, "ComparisonOf": impl.ComparisonOf, "SignsOf": impl.SignsOf} {
			if list, code := f(m); len(list) != 0 || code != impl.ErrInvalid {
				t.Errorf("%s: %s = %v, %d", name, what, list, code)
			}
		}
		if count, code := impl.CountNegative(m); count != 0 || code != impl.ErrInvalid {
			t.Errorf("%s: CountNegative = %d, %d", name, count, code)
		}
	}
}

func TestMinorOf(t *testing.T) {
	for _, c := range []struct {
		text string
		s    int64
		want int64
		code int64
	}{
		{"2,1;1,2", 3, 3, impl.ErrNone},
		{"1,2;3,4", 0, 1, impl.ErrNone},
		{"1,2;3,4", 1, 1, impl.ErrNone},
		{"1,2;3,4", 2, 4, impl.ErrNone},
		{"1,2;3,4", 3, -2, impl.ErrNone},
		{"0", 0, 1, impl.ErrNone},
		{"0", 1, 0, impl.ErrNone},
		{"-20", 1, -20, impl.ErrNone},
		{"0,1;1,0", 3, -1, impl.ErrNone},
		{"1,2,3;4,5,6;7,8,10", 5, -11, impl.ErrNone},
		{"1,2,3;4,5,6;7,8,10", 6, 2, impl.ErrNone},
		{"1,2,3;4,5,6;7,8,10", 7, -3, impl.ErrNone},
		{"0,1,0;0,0,1;1,0,0", 7, 1, impl.ErrNone},
		{"0,0,1;0,1,0;1,0,0", 7, -1, impl.ErrNone},
		{greatRows, 31, 153600000, impl.ErrNone},
		{greatRows, 30, -2560000, impl.ErrNone},
		{"1,2;3,4", 4, 0, impl.ErrRange},
		{"1,2;3,4", -1, 0, impl.ErrRange},
		{"1", 2, 0, impl.ErrRange},
		{greatRows, 32, 0, impl.ErrRange},
		{"1,2;3,4", leastInt, 0, impl.ErrRange},
		{"1,2;3,4", greatestInt, 0, impl.ErrRange},
	} {
		if minor, code := impl.MinorOf(rowsOf(c.text), c.s); minor != c.want || code != c.code {
			t.Errorf("MinorOf(%q, %d) = %d, %d", c.text, c.s, minor, code)
		}
	}
}

func TestMinorsAndNegativeSets(t *testing.T) {
	for _, c := range []struct {
		text             string
		minors, negative []int64
	}{
		{"2,1;1,2", []int64{1, 2, 2, 3}, nil},
		{"0", []int64{1, 0}, nil},
		{"1", []int64{1, 1}, nil},
		{"-1", []int64{1, -1}, []int64{1}},
		{"1,2;2,1", []int64{1, 1, 1, -3}, []int64{3}},
		{"-1,0;0,-1", []int64{1, -1, -1, 1}, []int64{1, 2}},
		{"1,2,3;4,5,6;7,8,10", []int64{1, 1, 5, -3, 10, -11, 2, -3}, []int64{3, 5, 7}},
	} {
		m := rowsOf(c.text)
		if list, code := impl.MinorsOf(m); !slices.Equal(list, c.minors) || code != impl.ErrNone {
			t.Errorf("MinorsOf(%q) = %v, %d", c.text, list, code)
		}
		if list, code := impl.NegativeSets(m); !slices.Equal(list, c.negative) || code != impl.ErrNone {
			t.Errorf("NegativeSets(%q) = %v, %d", c.text, list, code)
		}
	}
}

func TestMinorBy(t *testing.T) {
	for _, c := range []struct {
		text          string
		rows, columns int64
		want          int64
		code          int64
	}{
		{"1,2;3,4", 0, 0, 1, impl.ErrNone},
		{"1,2;3,4", 1, 1, 1, impl.ErrNone},
		{"1,2;3,4", 1, 2, 2, impl.ErrNone},
		{"1,2;3,4", 2, 1, 3, impl.ErrNone},
		{"1,2;3,4", 3, 3, -2, impl.ErrNone},
		{"1,2,3;4,5,6;7,8,10", 3, 6, -3, impl.ErrNone},
		{"1,2,3;4,5,6;7,8,10", 6, 3, -3, impl.ErrNone},
		{"1,2,3;4,5,6;7,8,10", 3, 5, -6, impl.ErrNone},
		{"1,2,3;4,5,6;7,8,10", 5, 3, -6, impl.ErrNone},
		{"1,2,3;4,5,6;7,8,10", 5, 6, -4, impl.ErrNone},
		{"1,2,3;4,5,6;7,8,10", 4, 1, 7, impl.ErrNone},
		{greatRows, 31, 31, 153600000, impl.ErrNone},
		{"1,2;3,4", 1, 3, 0, impl.ErrRange},
		{"1,2;3,4", 3, 1, 0, impl.ErrRange},
		{"1,2;3,4", 0, 1, 0, impl.ErrRange},
		{"1,2;3,4", 2, 0, 0, impl.ErrRange},
		// As many elements, but one of them is no set.
		{"1,2;3,4", 1, 4, 0, impl.ErrRange},
		{"1,2;3,4", 4, 1, 0, impl.ErrRange},
		{"1,2;3,4", 4, 4, 0, impl.ErrRange},
		{"1,2;3,4", 1, leastInt, 0, impl.ErrRange},
		{"1,2;3,4", leastInt, 1, 0, impl.ErrRange},
		{"1,2;3,4", leastInt, leastInt, 0, impl.ErrRange},
		{"1,2;3,4", -1, -1, 0, impl.ErrRange},
		{"1,2;3,4", greatestInt, greatestInt, 0, impl.ErrRange},
		{greatRows, 32, 1, 0, impl.ErrRange},
		{greatRows, 31, 30, 0, impl.ErrRange},
	} {
		if minor, code := impl.MinorBy(rowsOf(c.text), c.rows, c.columns); minor != c.want || code != c.code {
			t.Errorf("MinorBy(%q, %d, %d) = %d, %d", c.text, c.rows, c.columns, minor, code)
		}
	}
}

func TestCountNegative(t *testing.T) {
	for text, want := range map[string]int64{
		"1": 0, "0": 0, "-1": 1, "1,2;3,4": 1, "2,1;1,2": 0, "0,0;0,0": 0, "-1,-1;-1,-1": 4, "-1,0;0,-1": 2,
		// The pairs are told apart by their order: here just one of two has a minor less than 0.
		"1,-1;0,1": 1, "1,0;-1,1": 1, "1,-1;-1,1": 2, "1,2,3;4,5,6;7,8,10": 9,
	} {
		if count, code := impl.CountNegative(rowsOf(text)); count != want || code != impl.ErrNone {
			t.Errorf("CountNegative(%q) = %d, %d", text, count, code)
		}
	}
	if count, code := impl.CountNegative(squareOf(5, -20).M); count != 25 || code != impl.ErrNone {
		t.Errorf("CountNegative = %d, %d", count, code)
	}
}

// TestMinorsAgainstDevelopedOnes looks at all pairs of sets, with as many elements or not.
func TestMinorsAgainstDevelopedOnes(t *testing.T) {
	for _, m := range append(someMatrices(150), rowsOf(greatRows), rowsOf(hornRows), squareOf(5, 20).M) {
		minors, code := impl.MinorsOf(m)
		if len(minors) != 1<<len(m) || code != impl.ErrNone {
			t.Fatalf("MinorsOf(%v) = %v, %d", m, minors, code)
		}
		negative, negativePairs := []int64{}, int64(0)
		for _, s := range allSets(len(m)) {
			if minors[s] < 0 {
				negative = append(negative, s)
			}
			if one, code := impl.MinorOf(m, s); one != minors[s] || one != laplace(chosen(m, s, s)) || code != impl.ErrNone {
				t.Errorf("MinorOf(%v, %d) = %d, %d, beside %d", m, s, one, code, minors[s])
			}
			for _, other := range allSets(len(m)) {
				want, wantCode := int64(0), int64(impl.ErrRange)
				if countOf(s) == countOf(other) {
					want, wantCode = laplace(chosen(m, s, other)), impl.ErrNone
				}
				if want < 0 {
					negativePairs++
				}
				if by, code := impl.MinorBy(m, s, other); by != want || code != wantCode {
					t.Errorf("MinorBy(%v, %d, %d) = %d, %d", m, s, other, by, code)
				}
			}
		}
		if list, code := impl.NegativeSets(m); !slices.Equal(list, negative) || code != impl.ErrNone {
			t.Errorf("NegativeSets(%v) = %v, %d", m, list, code)
		}
		if count, code := impl.CountNegative(m); count != negativePairs || code != impl.ErrNone {
			t.Errorf("CountNegative(%v) = %d, %d", m, count, code)
		}
	}
}

// TestRowsOfMatrices is for the three functions that lead from rows to rows.
func TestRowsOfMatrices(t *testing.T) {
	for _, c := range []struct{ text, symmetric, comparison, signs string }{
		{"1,3;0,2", "2,3;3,4", "1,-3;0,2", "1,1;0,1"},
		{"-1,3;-2,2", "-2,1;1,4", "1,-3;-2,2", "-1,1;-1,1"},
		{"0", "0", "0", "0"},
		{"-20", "-40", "20", "-1"},
		{"20", "40", "20", "1"},
		{"-20,20;20,20", "-40,40;40,40", "20,-20;-20,20", "-1,1;1,1"},
		{"0,-20;20,0", "0,0;0,0", "0,-20;-20,0", "0,-1;1,0"},
		{"1,2,3;4,-5,6;7,-8,-9", "2,6,10;6,-10,-2;10,-2,-18", "1,-2,-3;-4,5,-6;-7,-8,9", "1,1,1;1,-1,1;1,-1,-1"},
	} {
		m := rowsOf(c.text)
		if r, code := impl.SymmetricPart(m); !reflect.DeepEqual(r, rowsOf(c.symmetric)) || code != impl.ErrNone {
			t.Errorf("SymmetricPart(%q) = %v, %d", c.text, r, code)
		}
		if r, code := impl.ComparisonOf(m); !reflect.DeepEqual(r, rowsOf(c.comparison)) || code != impl.ErrNone {
			t.Errorf("ComparisonOf(%q) = %v, %d", c.text, r, code)
		}
		if r, code := impl.SignsOf(m); !reflect.DeepEqual(r, rowsOf(c.signs)) || code != impl.ErrNone {
			t.Errorf("SignsOf(%q) = %v, %d", c.text, r, code)
		}
	}
	for _, m := range someMatrices(200) {
		if r, code := impl.SymmetricPart(m); !reflect.DeepEqual(r, twice(m)) || code != impl.ErrNone {
			t.Errorf("SymmetricPart(%v) = %v, %d", m, r, code)
		}
		if r, code := impl.ComparisonOf(m); !reflect.DeepEqual(r, compared(m)) || code != impl.ErrNone {
			t.Errorf("ComparisonOf(%v) = %v, %d", m, r, code)
		}
	}
}

func TestAddMatrices(t *testing.T) {
	for _, c := range []struct {
		text string
		k    int64
		want string
		code int64
	}{
		{"2,1;1,2", 3, "5,1;1,5", impl.ErrNone},
		{"2,1;1,2", 0, "2,1;1,2", impl.ErrNone},
		{"2,1;1,2", 18, "20,1;1,20", impl.ErrNone},
		{"2,1;1,2", 19, "", impl.ErrLimit},
		{"3,1;1,2", 18, "", impl.ErrLimit},
		{"2,1;1,3", 18, "", impl.ErrLimit},
		{"0", 20, "20", impl.ErrNone},
		{"1", 20, "", impl.ErrLimit},
		{"-20", 20, "0", impl.ErrNone},
		{"20", 0, "20", impl.ErrNone},
		{"20", 1, "", impl.ErrLimit},
		{"-20,20;20,-20", 20, "0,20;20,0", impl.ErrNone},
		{"1,2,3;4,5,6;7,8,9", 1, "2,2,3;4,6,6;7,8,10", impl.ErrNone},
		{"-20", 21, "", impl.ErrRange},
		{"-20", -1, "", impl.ErrRange},
		// ErrRange comes before ErrLimit.
		{"20", 21, "", impl.ErrRange},
		{"20", -1, "", impl.ErrRange},
		{"-20", -1, "", impl.ErrRange},
		{"2,1;1,2", leastInt, "", impl.ErrRange},
		{"2,1;1,2", greatestInt, "", impl.ErrRange},
	} {
		want := rows(nil)
		if c.want != "" {
			want = rowsOf(c.want)
		}
		if r, code := impl.AddMatrices(rowsOf(c.text), c.k); len(r) != len(want) || len(r) > 0 && !reflect.DeepEqual(r, want) || code != c.code {
			t.Errorf("AddMatrices(%q, %d) = %v, %d", c.text, c.k, r, code)
		}
	}
}

func TestFormAt(t *testing.T) {
	for _, c := range []struct {
		text string
		x    []int64
		want int64
		code int64
	}{
		{"1,3;0,2", []int64{2, -1}, 0, impl.ErrNone},
		{"2,1;1,2", []int64{1, 1}, 6, impl.ErrNone},
		{"2,1;1,2", []int64{0, 0}, 0, impl.ErrNone},
		{"1,2;3,4", []int64{1, 10}, 451, impl.ErrNone},
		{"-3", []int64{5}, -75, impl.ErrNone},
		{"0,1;-1,0", []int64{7, 9}, 0, impl.ErrNone},
		{"20", []int64{1000}, 20000000, impl.ErrNone},
		{"20", []int64{-1000}, 20000000, impl.ErrNone},
		{"1,2,3;4,5,6;7,8,9", []int64{1, 2, 3}, 228, impl.ErrNone},
		{greatRows, []int64{1000, 1000, 1000, 1000, 1000}, 300000000, impl.ErrNone},
		{"20", []int64{1001}, 0, impl.ErrRange},
		{"20", []int64{-1001}, 0, impl.ErrRange},
		{"0,0;0,0", []int64{0, 1001}, 0, impl.ErrRange},
		{"0,0;0,0", []int64{0, leastInt}, 0, impl.ErrRange},
		{"0,0;0,0", []int64{greatestInt, 0}, 0, impl.ErrRange},
		{"0,0;0,0", nil, 0, impl.ErrRange},
		{"0,0;0,0", []int64{}, 0, impl.ErrRange},
		{"0,0;0,0", []int64{1}, 0, impl.ErrRange},
		{"0,0;0,0", []int64{1, 1, 1}, 0, impl.ErrRange},
	} {
		if form, code := impl.FormAt(rowsOf(c.text), c.x); form != c.want || code != c.code {
			t.Errorf("FormAt(%q, %v) = %d, %d", c.text, c.x, form, code)
		}
	}
	for _, x := range []int64{1000, -1000} {
		if form, code := impl.FormAt(squareOf(5, -20).M, slices.Repeat([]int64{x}, 5)); form != -500000000 || code != impl.ErrNone {
			t.Errorf("FormAt = %d, %d", form, code)
		}
	}
}

func TestKindsOf(t *testing.T) {
	for _, c := range []struct {
		text string
		want []int64
	}{
		//                  P P0 Z K H D Sd C St Sy Do T
		{"2,1;1,2", []int64{1, 1, 0, 0, 1, 1, 1, 1, 1, 1, 1, 0}},
		{"1,2;0,1", []int64{1, 1, 0, 0, 1, 0, 1, 1, 1, 0, 0, 1}},
		{"0,1;-1,0", []int64{0, 1, 0, 0, 0, 0, 1, 1, 0, 0, 0, 0}},
		{"0,0;0,0", []int64{0, 1, 1, 0, 0, 0, 1, 1, 0, 1, 0, 1}},
		// The matrices of one row.
		{"1", []int64{1, 1, 1, 1, 1, 1, 1, 1, 1, 1, 1, 1}},
		{"0", []int64{0, 1, 1, 0, 0, 0, 1, 1, 0, 1, 0, 1}},
		{"-1", []int64{0, 0, 1, 0, 1, 0, 0, 0, 0, 1, 1, 1}},
		{"20", []int64{1, 1, 1, 1, 1, 1, 1, 1, 1, 1, 1, 1}},
		{"-20", []int64{0, 0, 1, 0, 1, 0, 0, 0, 0, 1, 1, 1}},
		// Copositive without being the sum of a semidefinite matrix and one of at least 0.
		{hornRows, []int64{0, 0, 0, 0, 0, 0, 0, 1, 0, 1, 0, 0}},
		// A sign with P and a determinant far beyond 2^31 in twice the symmetric part.
		{"20,20,20,20,20;-20,20,20,20,20;-20,-20,20,20,20;-20,-20,-20,20,20;-20,-20,-20,-20,20", []int64{1, 1, 0, 0, 0, 1, 1, 1, 1, 0, 0, 0}},
		{greatRows, []int64{0, 0, 0, 0, 0, 0, 0, 0, 0, 1, 0, 0}},
	} {
		if row, code := impl.KindsOf(rowsOf(c.text)); !slices.Equal(row, c.want) || code != impl.ErrNone {
			t.Errorf("KindsOf(%q) = %v, %d", c.text, row, code)
		}
	}
	for _, kind := range []int64{-1, 12, leastInt, greatestInt} {
		if yes, code := impl.IsOfKind(rowsOf("1"), kind); yes || code != impl.ErrRange {
			t.Errorf("IsOfKind(%d) = %v, %d", kind, yes, code)
		}
	}
}

// TestKindsMissedByOne has matrices of a kind, and others that differ by 1 in one number and are
// not of it.
func TestKindsMissedByOne(t *testing.T) {
	for _, c := range []struct {
		kind        int64
		met, missed string
	}{
		{impl.KindP, "1", "0"},
		{impl.KindP, "2,1;3,2", "2,1;4,2"},
		{impl.KindP, "2,-1;-3,2", "2,-1;-4,2"},
		{impl.KindP, "1,0,0;0,1,0;0,0,1", "1,0,0;0,1,0;0,0,0"},
		{impl.KindP, "1,1,-1;-1,1,1;1,-1,1", "1,1,-1;-1,1,1;1,-1,0"},
		{impl.KindP0, "0", "-1"},
		{impl.KindP0, "2,1;4,2", "2,1;5,2"},
		{impl.KindP0, "0,0,0;0,0,0;0,0,0", "0,0,0;0,-1,0;0,0,0"},
		{impl.KindZ, "5,0;-1,5", "5,1;-1,5"},
		{impl.KindZ, "5,-1;0,5", "5,-1;1,5"},
		{impl.KindZ, "9,0,0;0,9,0;0,0,9", "9,0,1;0,9,0;0,0,9"},
		{impl.KindK, "1", "0"},
		{impl.KindK, "2,-1;-3,2", "2,-1;-4,2"},
		{impl.KindK, "2,0;-3,2", "2,1;-3,2"},
		{impl.KindH, "1", "0"},
		{impl.KindH, "-1", "0"},
		{impl.KindH, "-2,1;3,2", "-2,1;4,2"},
		{impl.KindH, "-2,1;3,-2", "-1,1;3,-2"},
		{impl.KindDefinite, "1", "0"},
		{impl.KindDefinite, "1,1;0,1", "1,2;0,1"},
		{impl.KindDefinite, "2,-3;0,2", "2,-4;0,2"},
		{impl.KindDefinite, "1,19;-20,1", "1,18;-20,1"},
		{impl.KindSemidefinite, "0", "-1"},
		{impl.KindSemidefinite, "1,2;0,1", "1,3;0,1"},
		{impl.KindSemidefinite, "1,-2;0,1", "1,-3;0,1"},
		{impl.KindSemidefinite, "0,20;-20,0", "0,20;-19,0"},
		{impl.KindCopositive, "0", "-1"},
		{impl.KindCopositive, "1,-2;0,1", "1,-3;0,1"},
		{impl.KindCopositive, "0,5;-5,0", "0,4;-5,0"},
		{impl.KindCopositive, hornRows, "1,-2" + hornRows[len("1,-1"):]},
		{impl.KindCopositive, hornRows, "0,-1" + hornRows[len("1,-1"):]},
		{impl.KindStrictly, "1", "0"},
		{impl.KindStrictly, "1,-1;0,1", "1,-2;0,1"},
		{impl.KindStrictly, "1,5;5,1", "1,5;5,0"},
		{impl.KindSymmetric, "1,2;2,3", "1,2;3,3"},
		{impl.KindSymmetric, "1,2,3;2,1,4;3,4,1", "1,2,3;2,1,4;3,5,1"},
		{impl.KindDominant, "1", "0"},
		{impl.KindDominant, "-1", "0"},
		{impl.KindDominant, "3,-2;1,2", "2,-2;1,2"},
		{impl.KindDominant, "3,2;1,-2", "3,2;2,-2"},
		{impl.KindDominant, "4,-2,1;0,1,0;0,0,1", "4,-2,2;0,1,0;0,0,1"},
		{impl.KindTriangular, "1,0;2,3", "1,1;2,3"},
		{impl.KindTriangular, "1,2;0,3", "1,2;1,3"},
		{impl.KindTriangular, "0,0,0;2,0,0;4,5,0", "0,0,-1;2,0,0;4,5,0"},
		{impl.KindTriangular, "0,2,3;0,0,4;0,0,0", "0,2,3;0,0,4;-1,0,0"},
		{impl.KindTriangular, "1,0,0;1,1,0;0,0,1", "1,0,0;1,1,1;0,0,1"},
	} {
		for text, want := range map[string]bool{c.met: true, c.missed: false} {
			m := rowsOf(text)
			if yes, code := impl.IsOfKind(m, c.kind); yes != want || code != impl.ErrNone {
				t.Errorf("IsOfKind(%q, %d) = %v, %d", text, c.kind, yes, code)
			}
			if row := mustKinds(t, m); row[c.kind] == 1 != want {
				t.Errorf("KindsOf(%q) = %v", text, row)
			}
		}
	}
}

// TestKindsAgainstExactOnes needs matrices of each kind, and others, for each size but the first.
func TestKindsAgainstExactOnes(t *testing.T) {
	met, missed := [12][6]int{}, [12][6]int{}
	for _, m := range append(someMatrices(4000), rowsOf(hornRows), rowsOf(greatRows)) {
		row, want := mustKinds(t, m), exactKinds(m)
		if !slices.Equal(row, want) {
			t.Errorf("KindsOf(%v) = %v, want %v", m, row, want)
		}
		for kind, number := range want {
			if yes, code := impl.IsOfKind(m, int64(kind)); yes != (number == 1) || code != impl.ErrNone {
				t.Errorf("IsOfKind(%v, %d) = %v, %d", m, kind, yes, code)
			}
			met[kind][len(m)] += int(number)
			missed[kind][len(m)] += int(1 - number)
		}
	}
	for kind := range met {
		for n := 2; n <= impl.MaxSize; n++ {
			if met[kind][n] < 5 || missed[kind][n] < 5 {
				t.Errorf("kind %d, size %d: only %d met, %d missed", kind, n, met[kind][n], missed[kind][n])
			}
		}
	}
}

// TestKindsGoWithMinors is promise 3, with the determinants of chapter 1: those of the columns of a
// set are its minors, but for the sign of the numbers times -1.
func TestKindsGoWithMinors(t *testing.T) {
	for _, m := range someMatrices(1000) {
		least := int64(1)
		minors, code := impl.MinorsOf(m)
		if code != impl.ErrNone {
			t.Fatalf("MinorsOf(%v): code %d", m, code)
		}
		p := problem{M: m, Q: make([]int64, len(m))}
		for s, minor := range minors {
			least = min(least, minor)
			d, code := impl.DeterminantOf(p, int64(s))
			if countOf(int64(s))%2 == 1 {
				d = -d
			}
			if d != minor || code != impl.ErrNone {
				t.Errorf("MinorsOf(%v)[%d] = %d, but the determinant is %d, %d", m, s, minor, d, code)
			}
		}
		row := mustKinds(t, m)
		if row[impl.KindP] == 1 != (least > 0) || row[impl.KindP0] == 1 != (least >= 0) {
			t.Errorf("KindsOf(%v) = %v, but the least minor is %d", m, row, least)
		}
		negative, code := impl.NegativeSets(m)
		if len(negative) == 0 != (row[impl.KindP0] == 1) || code != impl.ErrNone {
			t.Errorf("KindsOf(%v) = %v, but the sets with minors less than 0 are %v, %d", m, row, negative, code)
		}
		if comparison, code := impl.ComparisonOf(m); mustKinds(t, comparison)[impl.KindK] != row[impl.KindH] || code != impl.ErrNone {
			t.Errorf("KindsOf(%v) = %v, but the comparison matrix is %v, %d", m, row, comparison, code)
		}
	}
}

// TestKindsGoWithEachOther is promise 3: which kinds follow from others.
func TestKindsGoWithEachOther(t *testing.T) {
	used := map[string]int{}
	for _, m := range someMatrices(3000) {
		row := mustKinds(t, m)
		is := func(kinds ...int) bool {
			return !slices.ContainsFunc(kinds, func(kind int) bool { return row[kind] == 0 })
		}
		positive, nonnegative := true, true
		for i := range m {
			positive = positive && m[i][i] > 0
			nonnegative = nonnegative && slices.Min(m[i]) >= 0
		}
		for _, c := range []struct {
			name           string
			given, follows bool
		}{
			{"P is P0", is(impl.KindP), is(impl.KindP0)},
			{"K is Z, P and H", is(impl.KindK), is(impl.KindZ, impl.KindP, impl.KindH)},
			{"Z and P is K", is(impl.KindZ, impl.KindP), is(impl.KindK)},
			{"Z, positive and H is K", is(impl.KindZ, impl.KindH) && positive, is(impl.KindK)},
			{"H and positive is P", is(impl.KindH) && positive, is(impl.KindP)},
			{"definite is much", is(impl.KindDefinite), is(impl.KindSemidefinite, impl.KindP, impl.KindStrictly)},
			{"semidefinite is P0 and copositive", is(impl.KindSemidefinite), is(impl.KindP0, impl.KindCopositive)},
			{"strictly is copositive", is(impl.KindStrictly), is(impl.KindCopositive) && positive},
			{"symmetric and P is definite", is(impl.KindSymmetric, impl.KindP), is(impl.KindDefinite)},
			{"symmetric and P0 is semidefinite", is(impl.KindSymmetric, impl.KindP0), is(impl.KindSemidefinite)},
			{"symmetric, Z and copositive is semidefinite", is(impl.KindSymmetric, impl.KindZ, impl.KindCopositive), is(impl.KindSemidefinite)},
			{"dominant is H", is(impl.KindDominant), is(impl.KindH)},
			{"dominant and positive is P", is(impl.KindDominant) && positive, is(impl.KindP)},
			{"triangular and positive is P", is(impl.KindTriangular) && positive, is(impl.KindP)},
			{"nonnegative is copositive", nonnegative, is(impl.KindCopositive)},
			{"nonnegative and positive is strictly", nonnegative && positive, is(impl.KindStrictly)},
		} {
			if c.given && !c.follows {
				t.Errorf("%s: not so for %v with %v", c.name, m, row)
			}
			if c.given && len(m) > 1 {
				used[c.name]++
			} else {
				used[c.name] += 0
			}
		}
	}
	for name, count := range used {
		if count < 20 {
			t.Errorf("%s: only %d matrices", name, count)
		}
	}
}

// TestFormsGoWithKinds is promise 3, both ways: for matrices of 2 with numbers of at most 3, each
// form that is not of a kind has a value against it at whole numbers of at most 6.
func TestFormsGoWithKinds(t *testing.T) {
	for code := range 7 * 7 * 7 * 7 {
		m := rows{{int64(code%7) - 3, int64(code/7%7) - 3}, {int64(code/49%7) - 3, int64(code/343) - 3}}
		definite, semidefinite, copositive, strictly := true, true, true, true
		for x := int64(-6); x <= 6; x++ {
			for y := int64(-6); y <= 6; y++ {
				form, code := impl.FormAt(m, []int64{x, y})
				if code != impl.ErrNone {
					t.Fatalf("FormAt(%v, %d, %d): code %d", m, x, y, code)
				}
				zero, orthant := x == 0 && y == 0, x >= 0 && y >= 0
				definite = definite && (zero || form > 0)
				semidefinite = semidefinite && form >= 0
				copositive = copositive && (!orthant || form >= 0)
				strictly = strictly && (!orthant || zero || form > 0)
			}
		}
		row := mustKinds(t, m)
		got := []bool{row[impl.KindDefinite] == 1, row[impl.KindSemidefinite] == 1, row[impl.KindCopositive] == 1, row[impl.KindStrictly] == 1}
		if want := []bool{definite, semidefinite, copositive, strictly}; !slices.Equal(got, want) {
			t.Errorf("KindsOf(%v) = %v, but the forms tell %v", m, row, want)
		}
	}
}

// TestFormsOfAllSizes has forms against matrices of greater sizes, and against an exact sum.
func TestFormsOfAllSizes(t *testing.T) {
	source := rand.New(rand.NewSource(7))
	looked := [4]int{}
	for _, m := range someMatrices(1500) {
		row := mustKinds(t, m)
		for try := range 12 {
			most := []int64{1, 3, 1000}[try%3]
			x := []int64{}
			for range m {
				number := source.Int63n(2*most+1) - most
				if try%2 == 0 {
					number = max(number, -number)
				}
				x = append(x, number)
			}
			form, code := impl.FormAt(m, x)
			want := new(big.Int)
			for i := range m {
				for k := range m {
					product := new(big.Int).Mul(big.NewInt(x[i]*m[i][k]), big.NewInt(x[k]))
					want.Add(want, product)
				}
			}
			if want.Cmp(big.NewInt(form)) != 0 || code != impl.ErrNone {
				t.Errorf("FormAt(%v, %v) = %d, %d", m, x, form, code)
			}
			zero, orthant := slices.Max(x) == 0 && slices.Min(x) == 0, slices.Min(x) >= 0
			for i, c := range []struct {
				kind  int
				least int64
				asked bool
			}{
				{impl.KindDefinite, 1, !zero}, {impl.KindSemidefinite, 0, true}, {impl.KindCopositive, 0, orthant}, {impl.KindStrictly, 1, orthant && !zero},
			} {
				if row[c.kind] == 1 && c.asked {
					looked[i]++
					if form < c.least {
						t.Errorf("KindsOf(%v) = %v, but the form at %v is %d", m, row, x, form)
					}
				}
			}
		}
	}
	if slices.Min(looked[:]) < 1000 {
		t.Errorf("only %v forms", looked)
	}
}

// TestAddedMatricesAreDominant: with enough added at i, i, dominant and all that goes with it is met.
func TestAddedMatricesAreDominant(t *testing.T) {
	for _, m := range someMatrices(300) {
		for i := range m {
			for k := range m {
				m[i][k] /= 6
			}
		}
		added, code := impl.AddMatrices(m, 17)
		if code != impl.ErrNone {
			t.Fatalf("AddMatrices(%v): code %d", m, code)
		}
		row := mustKinds(t, added)
		for _, kind := range []int{impl.KindDominant, impl.KindP, impl.KindP0, impl.KindH, impl.KindStrictly, impl.KindCopositive} {
			if row[kind] != 1 {
				t.Errorf("KindsOf(%v) = %v", added, row)
			}
		}
	}
}

// callMatrices calls all functions of chapter 3.
func callMatrices(m rows, x []int64) []any {
	results := []any{impl.IsMatrix(m)}
	add := func(result any, code int64) { results = append(results, result, code) }
	for _, f := range []func(rows) ([]int64, int64){impl.MinorsOf, impl.KindsOf, impl.NegativeSets} {
		list, code := f(m)
		add(list, code)
	}
	for _, f := range []func(rows) (rows, int64){impl.SymmetricPart, impl.ComparisonOf, impl.SignsOf} {
		list, code := f(m)
		add(list, code)
	}
	for _, s := range []int64{-1, 0, 1, 2, 3, 4, 11, 12, 20} {
		minor, a := impl.MinorOf(m, s)
		by, b := impl.MinorBy(m, s, 1)
		yes, c := impl.IsOfKind(m, s)
		added, d := impl.AddMatrices(m, s)
		add([]any{minor, by, yes, added}, a+10*b+100*c+1000*d)
	}
	form, a := impl.FormAt(m, x)
	count, b := impl.CountNegative(m)
	add([]int64{form, count}, a+10*b)
	return results
}

// TestMatrixCallsLeaveNothing: no argument is changed, and each call tells the same once more.
func TestMatrixCallsLeaveNothing(t *testing.T) {
	p, same := guardedProblem(mustParse(t, "2,-1,0;3,1,4;-2,5,6/0,0,0"))
	x, sameX := guarded([]int64{1, 2, 3}, 44)
	first := callMatrices(p.M, x)
	callMatrices(rowsOf("1,2;3,4"), []int64{1, 2})
	if again := callMatrices(p.M, x); !reflect.DeepEqual(first, again) {
		t.Errorf("results = %v, then %v", first, again)
	}
	if !same() || !sameX() {
		t.Errorf("an argument has been changed")
	}
}

// TestMatrixResultsAreNew writes into results, and looks at their neighbours, at the arguments and
// at the next results.
func TestMatrixResultsAreNew(t *testing.T) {
	const text = "-2,1;1,2"
	m := rowsOf(text)
	for name, f := range map[string]func(rows) (rows, int64){
		"SymmetricPart": impl.SymmetricPart, "ComparisonOf": impl.ComparisonOf, "SignsOf": impl.SignsOf,
		"AddMatrices 0": func(m rows) (rows, int64) { return impl.AddMatrices(m, 0) },
		"AddMatrices 3": func(m rows) (rows, int64) { return impl.AddMatrices(m, 3) },
	} {
		first, _ := f(m)
		want := rows{slices.Clone(first[0]), slices.Clone(first[1])}
		second, _ := f(m)
		spoilRows(t, name, append(first, second...))
		first[0] = nil
		if third, code := f(m); !reflect.DeepEqual(third, want) || code != impl.ErrNone || !reflect.DeepEqual(m, rowsOf(text)) {
			t.Errorf("%s = %v, then %v, %d, of %v", name, want, third, code, m)
		}
	}
	for name, f := range map[string]func(rows) ([]int64, int64){"MinorsOf": impl.MinorsOf, "KindsOf": impl.KindsOf, "NegativeSets": impl.NegativeSets} {
		first, _ := f(m)
		want := slices.Clone(first)
		second, _ := f(m)
		spoilRows(t, name, rows{first, second})
		if third, code := f(m); !slices.Equal(third, want) || code != impl.ErrNone || !reflect.DeepEqual(m, rowsOf(text)) {
			t.Errorf("%s = %v, then %v, %d, of %v", name, want, third, code, m)
		}
	}
}
