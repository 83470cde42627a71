package tests

import (
	"math/big"
	"math/rand"
	"reflect"
	"slices"
	"strings"
	"testing"

	"loop.example/g01343/impl"
)

type program = impl.Program

// programFrom returns the program with the texts of D and C, and of A and B if there are any.
func programFrom(text string) program {
	parts := strings.Split(text, "/")
	p := program{D: rowsOf(parts[0]), C: rowsOf(parts[1])[0]}
	if len(parts) > 2 {
		p.A, p.B = rowsOf(parts[2]), rowsOf(parts[3])[0]
	}
	return p
}

// evenProgram has one number in each of D, C, A and B.
func evenProgram(n, m int, d, c, a, b int64) program {
	p := program{}
	for range n {
		p.D, p.C = append(p.D, slices.Repeat([]int64{d}, n)), append(p.C, c)
	}
	for range m {
		p.A, p.B = append(p.A, slices.Repeat([]int64{a}, n)), append(p.B, b)
	}
	return p
}

// programShapes returns all pairs of numbers of C and of rows of A.
func programShapes() [][2]int {
	list := [][2]int{}
	for n := 1; n <= impl.MaxSize; n++ {
		for m := range impl.MaxSize - n + 1 {
			list = append(list, [2]int{n, m})
		}
	}
	return list
}

// somePrograms returns the same programs at each call, of all shapes: with D that is any, of less than the
// full rank, with a great diagonal, or 0, and with great and small numbers.
func somePrograms(count int) []program {
	source := rand.New(rand.NewSource(9))
	between := func(limit int64) int64 { return source.Int63n(2*limit+1) - limit }
	shapes := programShapes()
	list := []program{}
	for i := range count {
		shape := shapes[i%len(shapes)]
		n, kind := shape[0], i/len(shapes)%4
		entry, right := int64(impl.MaxEntry), int64(impl.MaxRight)
		if i/len(shapes)/4%2 == 0 {
			entry, right = 2, 3
		}
		p := evenProgram(n, shape[1], 0, 0, 0, 0)
		root := []int64{}
		for range n {
			root = append(root, between(min(entry, 4)))
		}
		for r := range n {
			p.C[r] = between(right)
			for c := range r + 1 {
				p.D[r][c] = [4]int64{between(entry), root[r] * root[c], between(2), 0}[kind]
				if kind == 2 && r == c {
					p.D[r][c] = min(entry+8, impl.MaxEntry)
				}
				p.D[c][r] = p.D[r][c]
			}
		}
		for j := range p.A {
			p.B[j] = between(right)
			for k := range p.A[j] {
				p.A[j][k] = between(entry)
			}
		}
		list = append(list, p)
	}
	return list
}

// invalidPrograms has programs that break one condition each.
func invalidPrograms() map[string]program {
	return map[string]program{
		"zero":                  {},
		"empty":                 {D: rows{}, C: []int64{}, A: rows{}, B: []int64{}},
		"no D":                  {C: []int64{1}},
		"no C":                  {D: rows{{1}}},
		"nil row of D":          {D: rows{nil}, C: []int64{1}},
		"no numbers at all":     {D: rows{{}}, C: []int64{}, A: rows{{}}, B: []int64{1}},
		"only rows of A":        {A: rows{{}}, B: []int64{1}},
		"D too few rows":        {D: rows{{1, 0}}, C: []int64{1, 1}},
		"D too many rows":       {D: rows{{1}, {1}}, C: []int64{1}},
		"D too many, C too few": {D: rows{{1, 0}, {0, 1}}, C: []int64{1}},
		"D short row":           {D: rows{{1, 0}, {0}}, C: []int64{1, 1}},
		"D short first row":     {D: rows{{1}, {0, 1}}, C: []int64{1, 1}},
		"D long row":            {D: rows{{1, 0}, {0, 1, 0}}, C: []int64{1, 1}},
		"D wide":                {D: rows{{1, 0, 0}, {0, 1, 0}}, C: []int64{1, 1}},
		"D not symmetric":       programFrom("1,2;3,1/1,1"),
		"D with other signs":    programFrom("1,2;-2,1/1,1"),
		"D corner":              programFrom("1,0,1;0,1,0;0,0,1/1,1,1"),
		"D last pair":           programFrom("1,0,0;0,1,1;0,0,1/1,1,1"),
		"D triangular":          programFrom("0,1;0,0/0,0"),
		"D above":               programFrom("21/1"),
		"D below":               programFrom("-21/1"),
		"D pair above":          programFrom("1,21;21,1/1,1"),
		"D last below":          programFrom("0,0;0,-21/1,1"),
		"D least":               {D: rows{{leastInt}}, C: []int64{1}},
		"D greatest":            {D: rows{{greatestInt}}, C: []int64{1}},
		"C above":               programFrom("1,0;0,1/1,101"),
		"C below":               programFrom("1,0;0,1/-101,1"),
		"C least":               {D: rows{{1}}, C: []int64{leastInt}},
		"C greatest":            {D: rows{{1}}, C: []int64{greatestInt}},
		"A without B":           {D: rows{{1}}, C: []int64{1}, A: rows{{1}}},
		"B without A":           {D: rows{{1}}, C: []int64{1}, B: []int64{1}},
		"B too short":           programFrom("1/1/1;1/1"),
		"B too long":            programFrom("1/1/1;1/1,1,1"),
		"A nil row":             {D: rows{{1}}, C: []int64{1}, A: rows{nil}, B: []int64{1}},
		"A short row":           programFrom("1,0;0,1/1,1/1,1;1/1,1"),
		"A short first row":     programFrom("1,0;0,1/1,1/1;1,1/1,1"),
		"A long row":            programFrom("1,0;0,1/1,1/1,1;1,1,1/1,1"),
		"A above":               programFrom("1,0;0,1/1,1/1,1;1,21/1,1"),
		"A below":               programFrom("1,0;0,1/1,1/-21,1;1,1/1,1"),
		"A least":               {D: rows{{1}}, C: []int64{1}, A: rows{{leastInt}}, B: []int64{1}},
		"A greatest":            {D: rows{{1}}, C: []int64{1}, A: rows{{greatestInt}}, B: []int64{1}},
		"B above":               programFrom("1/1/1;1/1,101"),
		"B below":               programFrom("1/1/1;1/-101,1"),
		"B least":               {D: rows{{1}}, C: []int64{1}, A: rows{{1}}, B: []int64{leastInt}},
		"B greatest":            {D: rows{{1}}, C: []int64{1}, A: rows{{1}}, B: []int64{greatestInt}},
		"6 and 0":               evenProgram(6, 0, 1, 1, 1, 1),
		"5 and 1":               evenProgram(5, 1, 1, 1, 1, 1),
		"4 and 2":               evenProgram(4, 2, 1, 1, 1, 1),
		"3 and 3":               evenProgram(3, 3, 1, 1, 1, 1),
		"2 and 4":               evenProgram(2, 4, 1, 1, 1, 1),
		"1 and 5":               evenProgram(1, 5, 1, 1, 1, 1),
		"0 and 1":               evenProgram(0, 1, 1, 1, 1, 1),
		"0 and 5":               evenProgram(0, 5, 1, 1, 1, 1),
		"70 and 0":              evenProgram(70, 0, 1, 1, 1, 1),
		"1 and 300":             evenProgram(1, 300, 1, 1, 1, 1),
	}
}

func sumOfProducts(numbers []int64, x []*big.Rat) *big.Rat {
	sum := new(big.Rat)
	for k, number := range numbers {
		sum.Add(sum, new(big.Rat).Mul(big.NewRat(number, 1), x[k]))
	}
	return sum
}

// exactValue takes the numbers of D one by one, as the document does.
func exactValue(p program, x []*big.Rat) *big.Rat {
	sum := new(big.Rat)
	for i := range p.D {
		for k, d := range p.D[i] {
			product := new(big.Rat).Mul(x[i], x[k])
			sum.Add(sum, product.Mul(product, big.NewRat(d, 2)))
		}
	}
	return sum.Add(sum, sumOfProducts(p.C, x))
}

func exactSlopes(p program, x []*big.Rat) []*big.Rat {
	list := []*big.Rat{}
	for i, row := range p.D {
		list = append(list, new(big.Rat).Add(big.NewRat(p.C[i], 1), sumOfProducts(row, x)))
	}
	return list
}

func exactPlace(p program, x []*big.Rat) bool {
	for _, number := range x {
		if number.Sign() < 0 {
			return false
		}
	}
	for j, row := range p.A {
		if sumOfProducts(row, x).Cmp(big.NewRat(p.B[j], 1)) < 0 {
			return false
		}
	}
	return true
}

// exactProgramProblem fills M block by block.
func exactProgramProblem(p program) problem {
	n, m := len(p.C), len(p.B)
	result := squareOf(n+m, 0)
	for i := range n {
		copy(result.M[i], p.D[i])
		result.Q[i] = p.C[i]
		for j := range m {
			result.M[i][n+j], result.M[n+j][i] = -p.A[j][i], p.A[j][i]
		}
	}
	for j := range m {
		result.Q[n+j] = -p.B[j]
	}
	return result
}

func isZeroProgram(p program) bool {
	return len(p.D)+len(p.C)+len(p.A)+len(p.B) == 0
}

func samePrograms(p, q program) bool {
	return sameRows(p.D, q.D) && slices.Equal(p.C, q.C) && sameRows(p.A, q.A) && slices.Equal(p.B, q.B)
}

func callProgramProblem(p program) []reply {
	result, code := impl.ProgramProblem(p)
	return []reply{{"ProgramProblem", []any{result}, isZeroProblem(result), code}}
}

func callMinimum(p program) []reply {
	x, y, value, code := impl.MinimumOf(p)
	return []reply{{"MinimumOf", []any{x, y, value}, len(x)+len(y) == 0 && value == frac{}, code}}
}

func callConvex(p program) []reply {
	yes, code := impl.IsConvex(p)
	return []reply{{"IsConvex", []any{yes}, !yes, code}}
}

func callDual(p program) []reply {
	dual, code := impl.DualProgram(p)
	return []reply{{"DualProgram", []any{dual}, isZeroProgram(dual), code}}
}

func callValue(p program, x []frac) []reply {
	value, code := impl.ValueAt(p, x)
	return []reply{{"ValueAt", []any{value}, value == frac{}, code}}
}

func callSlopes(p program, x []frac) []reply {
	slopes, code := impl.SlopesAt(p, x)
	return []reply{{"SlopesAt", []any{slopes}, len(slopes) == 0, code}}
}

func callPlace(p program, x []frac) []reply {
	yes, code := impl.IsPlace(p, x)
	return []reply{{"IsPlace", []any{yes}, !yes, code}}
}

func callStationary(p program, x, y []frac) []reply {
	yes, code := impl.IsStationary(p, x, y)
	return []reply{{"IsStationary", []any{yes}, !yes, code}}
}

func callSum(p, q program) []reply {
	sum, code := impl.AddPrograms(p, q)
	return []reply{{"AddPrograms", []any{sum}, isZeroProgram(sum), code}}
}

func callMultiple(p program, k int64) []reply {
	multiple, code := impl.ScaleProgram(p, k)
	return []reply{{"ScaleProgram", []any{multiple}, isZeroProgram(multiple), code}}
}

func callAlong(p program, x, u []int64) []reply {
	at, value, code := impl.LeastAlong(p, x, u)
	return []reply{{"LeastAlong", []any{at, value}, at == frac{} && value == frac{}, code}}
}

// callProgram calls all functions of chapter 9 that take a program alone.
func callProgram(p program) []reply {
	return slices.Concat(callProgramProblem(p), callMinimum(p), callConvex(p), callDual(p))
}

// callAtPoint calls those that take fractions x alone.
func callAtPoint(p program, x []frac) []reply {
	return slices.Concat(callValue(p, x), callSlopes(p, x), callPlace(p, x))
}

func mustConvex(t *testing.T, p program) bool {
	t.Helper()
	yes, code := impl.IsConvex(p)
	if code != impl.ErrNone {
		t.Fatalf("IsConvex(%v): code %d", p, code)
	}
	return yes
}

func TestIsProgram(t *testing.T) {
	for _, shape := range programShapes() {
		n, m := shape[0], shape[1]
		for _, p := range []program{
			evenProgram(n, m, 0, 0, 0, 0), evenProgram(n, m, 20, 100, 20, 100), evenProgram(n, m, -20, -100, -20, -100),
			{D: evenProgram(n, 0, 1, 0, 0, 0).D, C: make([]int64, n), A: evenProgram(n, m, 0, 0, 3, 0).A, B: make([]int64, m)},
		} {
			if !impl.IsProgram(p) {
				t.Errorf("IsProgram(%v) = false", p)
			}
		}
	}
	for _, p := range []program{
		{D: rows{{0}}, C: []int64{0}},
		{D: rows{{0}}, C: []int64{0}, A: rows{}, B: []int64{}},
		programFrom("0,7,-20;7,1,20;-20,20,-3/-100,0,100/-20,20,0;0,0,0/-100,100"),
	} {
		if !impl.IsProgram(p) {
			t.Errorf("IsProgram(%v) = false", p)
		}
	}
	for name, p := range invalidPrograms() {
		if impl.IsProgram(p) {
			t.Errorf("IsProgram, %s = true", name)
		}
	}
}

func TestProgramProblem(t *testing.T) {
	for _, c := range [][2]string{
		{"2/-2", "2/-2"},
		{"0/100", "0/100"},
		{"-20/-100", "-20/-100"},
		{"2,0;0,2/-2,-6", "2,0;0,2/-2,-6"},
		{"2,0;0,2/-2,-6/-1,-1/-2", "2,0,1;0,2,1;-1,-1,0/-2,-6,2"},
		{"3/4/5/6", "3,-5;5,0/4,-6"},
		{"0/1/2;3;4;-5/6,-7,8,9", "0,-2,-3,-4,5;2,0,0,0,0;3,0,0,0,0;4,0,0,0,0;-5,0,0,0,0/1,-6,7,-8,-9"},
		{"1,2,3;2,4,5;3,5,6/7,8,9/10,11,12;13,14,-15/16,-17", "1,2,3,-10,-13;2,4,5,-11,-14;3,5,6,-12,15;10,11,12,0,0;13,14,-15,0,0/7,8,9,-16,17"},
		{"-20,20;20,-20/100,-100/20,-20;-20,20;20,20/100,-100,100", "-20,20,-20,20,-20;20,-20,20,-20,-20;20,-20,0,0,0;-20,20,0,0,0;20,20,0,0,0/100,-100,-100,100,-100"},
	} {
		p, code := impl.ProgramProblem(programFrom(c[0]))
		if !sameProblems(p, mustParse(t, c[1])) || code != impl.ErrNone {
			t.Errorf("ProgramProblem(%s) = %v, %d, want %s", c[0], p, code, c[1])
		}
	}
	for _, p := range somePrograms(600) {
		got, code := impl.ProgramProblem(p)
		if !sameProblems(got, exactProgramProblem(p)) || !impl.IsProblem(got) || code != impl.ErrNone {
			t.Errorf("ProgramProblem(%v) = %v, %d", p, got, code)
		}
	}
}

// atPoint has what the value and the slopes are at a point; an empty text stands for ErrLimit.
type atPoint struct{ program, x, value, slopes string }

func TestValuesAndSlopes(t *testing.T) {
	for _, c := range []atPoint{
		{"2/-2", "0", "0", "-2"},
		{"2/-2", "1", "-1", "0"},
		{"2/-2", "-1", "3", "-4"},
		{"2/-2", "1/2", "-3/4", "-1"},
		{"1/0", "1/3", "1/18", "1/3"},
		{"-3/1", "5/7", "-5/98", "-8/7"},
		{"2,0;0,2/-2,-6", "0 2", "-8", "-2 -2"},
		// Each D(i)(k) with i other than k counts twice, halved.
		{"0,1;1,0/0,0", "1 1", "1", "1 1"},
		{"0,3;3,0/0,0", "2/3 5/7", "10/7", "15/7 2"},
		{"1,2,3;2,4,5;3,5,6/7,8,9", "1 2 3", "257/2", "21 33 40"},
		{"1,2,3;2,4,5;3,5,6/7,8,9", "-1 1/2 -1/3", "-11/2", "6 19/3 13/2"},
		// Rows of A change nothing, and x needs be no place.
		{"1,2,3;2,4,5;3,5,6/7,8,9/20,20,20;1,1,1/100,100", "1 2 3", "257/2", "21 33 40"},
		{"0/1/2;3;4;-5/6,-7,8,9", "-7", "-7", "1"},
		{"0,0;0,0/1,2/1,1/3", "1/2 1/3", "7/6", "1 2"},
		{"20,20,20,20,20;20,20,20,20,20;20,20,20,20,20;20,20,20,20,20;20,20,20,20,20/100,100,100,100,100", "100 100 100 100 100", "2550000", "10100 10100 10100 10100 10100"},
		// The least common denominator at 10000 and beyond it, of one or of several.
		{"0/1", "1/10000", "1/10000", "1"},
		{"1/0", "1/10000", "1/200000000", "1/10000"},
		{"1/0", "1/10001", "", ""},
		{"0/0", "1/10001", "", ""},
		{"0,0;0,0/1,1", "1/16 1/625", "641/10000", "1 1"},
		{"0,0;0,0/1,1", "1/16 1/627", "", ""},
		{"0,0;0,0/0,0", "1/101 1/100", "", ""},
		{"0,0;0,0/0,0", "1/100 1/10000", "0", "0 0"},
		{"0,0,0;0,0,0;0,0,0/1,1,1", "1/8 1/25 1/50", "37/200", "1 1 1"},
		{"0,0,0;0,0,0;0,0,0/1,1,1", "1/99 1/100 1/101", "", ""},
		{"0/0", "1/1000000000", "", ""},
		{"0,0;0,0/0,0", "1/999999999 1/1000000000", "", ""},
		// A Num at 10000000 and beyond it, as it is, and if written with the least common denominator.
		{"0/1", "10000000", "10000000", "1"},
		{"0/1", "-10000000", "-10000000", "1"},
		{"0/1", "10000001", "", ""},
		{"0/1", "-10000001", "", ""},
		{"0/1", "9999999/9998", "9999999/9998", "1"},
		{"0/1", "10000001/9998", "", ""},
		{"0/0", "1000000000", "", ""},
		{"0/0", "-1000000000", "", ""},
		{"0,0;0,0/1,1", "1000000 1/10", "10000001/10", "1 1"},
		{"0,0;0,0/1,1", "1000001 1/10", "", ""},
		{"0,0;0,0/1,1", "-1000000 1/10", "-9999999/10", "1 1"},
		{"0,0;0,0/1,1", "1/10 -1000001", "", ""},
		{"0,0;0,0/0,0", "1000 1/10000", "0", "0 0"},
		{"0,0;0,0/0,0", "1001 1/10000", "", ""},
		{"0,0;0,0/0,0", "10000000 1/2", "", ""},
		// The value at MaxFrac and beyond it, where the slopes are not.
		{"0/100", "10000000", "1000000000", "100"},
		{"0/-100", "10000000", "-1000000000", "-100"},
		{"0,0;0,0/100,1", "10000000 1", "", "100 1"},
		{"0,0;0,0/-100,-1", "10000000 1", "", "-100 -1"},
		{"20/0", "10000", "1000000000", "200000"},
		{"20/0", "10001", "", "200020"},
		{"-20/0", "10000", "-1000000000", "-200000"},
		{"-20/0", "-10001", "", "200020"},
		{"20/-100", "10000000", "", "199999900"},
		{"2/0", "31622", "999950884", "63244"},
		{"2/0", "31623", "", "63246"},
		{"1/0", "44721", "", "44721"},
		{"1/0", "31623/2", "", "31623/2"},
		{"20,20,20,20,20;20,20,20,20,20;20,20,20,20,20;20,20,20,20,20;20,20,20,20,20/0,0,0,0,0", "10000000 10000000 10000000 10000000 10000000", "", "1000000000 1000000000 1000000000 1000000000 1000000000"},
		{"-20,-20,-20,-20,-20;-20,-20,-20,-20,-20;-20,-20,-20,-20,-20;-20,-20,-20,-20,-20;-20,-20,-20,-20,-20/0,0,0,0,0", "10000000 10000000 10000000 10000000 10000000", "", "-1000000000 -1000000000 -1000000000 -1000000000 -1000000000"},
		// Both beyond it, though the fractions are within their limits, and where the last slope alone is.
		{"20,20,20,20,20;20,20,20,20,20;20,20,20,20,20;20,20,20,20,20;20,20,20,20,20/0,0,0,0,1", "10000000 10000000 10000000 10000000 10000000", "", ""},
		{"20,20,20,20,20;20,20,20,20,20;20,20,20,20,20;20,20,20,20,20;20,20,20,20,20/0,0,0,0,-1", "10000000 10000000 10000000 10000000 10000000", "", "1000000000 1000000000 1000000000 1000000000 999999999"},
		{"20,-20,0,0,0;-20,20,-20,20,-20;0,-20,0,0,0;0,20,0,0,0;0,-20,0,0,0/0,-1,0,0,0", "10000000 -10000000 10000000 -10000000 10000000", "", ""},
	} {
		p, x := programFrom(c.program), fracsIn(t, c.x)
		value, a := impl.ValueAt(p, x)
		slopes, b := impl.SlopesAt(p, x)
		if c.value == "" {
			checkRefused(t, c.program+" at "+c.x, callValue(p, x), impl.ErrLimit)
		} else if text, _ := impl.FracText(value); text != c.value || a != impl.ErrNone {
			t.Errorf("ValueAt(%s, %s) = %v, %d, want %s", c.program, c.x, value, a, c.value)
		}
		if c.slopes == "" {
			checkRefused(t, c.program+" at "+c.x, callSlopes(p, x), impl.ErrLimit)
		} else if textsOf(t, slopes) != c.slopes || b != impl.ErrNone {
			t.Errorf("SlopesAt(%s, %s) = %v, %d, want %s", c.program, c.x, slopes, b, c.slopes)
		}
	}
}

// isWide reports whether fractions need a greater denominator than maxDen, or then a greater Num than maxNum.
func isWide(list []frac, maxDen, maxNum int64) bool {
	den := commonDen(list)
	return den.Cmp(big.NewInt(maxDen)) > 0 || slices.ContainsFunc(list, func(a frac) bool {
		num := new(big.Int).Mul(big.NewInt(a.Num), den)
		return num.Quo(num, big.NewInt(a.Den)).CmpAbs(big.NewInt(maxNum)) > 0
	})
}

// somePoints returns the same points at each call: of small whole numbers, of small fractions, and of such
// ones that some are beyond the limits of values.
func somePoints(n int, seed int64) [][]frac {
	source := rand.New(rand.NewSource(seed))
	list := [][]frac{}
	for _, limits := range [][2]int64{{4, 1}, {9, 4}, {9, 12}, {30000000, 1}, {3000, 30}, {1000000000, 12}, {1000000000, 40000}} {
		x := []*big.Rat{}
		for range n {
			x = append(x, big.NewRat(source.Int63n(2*limits[0]+1)-limits[0]/2, 1+source.Int63n(limits[1])))
			if source.Intn(3) == 0 {
				x[len(x)-1].SetInt64(source.Int63n(3))
			}
			if isBeyond(x...) {
				x[len(x)-1].SetInt64(impl.MaxFrac)
			}
		}
		list = append(list, fracsFrom(x))
	}
	return list
}

func TestValuesAndSlopesAgainstExactOnes(t *testing.T) {
	wide, beyond, within := 0, 0, [6]int{}
	for i, p := range somePrograms(600) {
		n := len(p.C)
		for _, x := range somePoints(n, int64(i)) {
			if isWide(x, 10000, 10000000) {
				wide++
				checkRefused(t, "fractions beyond the limits", append(callValue(p, x), callSlopes(p, x)...), impl.ErrLimit)
				continue
			}
			want := exactValue(p, ratsOf(x))
			value, a := impl.ValueAt(p, x)
			checkRat(t, "ValueAt", value, a, want)
			if isBeyond(want) {
				beyond++
			} else {
				within[n]++
			}
			slopes, b := impl.SlopesAt(p, x)
			if !sameFracs(slopes, exactSlopes(p, ratsOf(x))) || b != impl.ErrNone {
				t.Errorf("SlopesAt(%v, %v) = %v, %d", p, x, slopes, b)
			}
		}
	}
	if min(wide, beyond, slices.Min(within[1:])) < 100 {
		t.Errorf("only %d lists beyond the limits, %d values, and %v within them", wide, beyond, within)
	}
}

func TestIsPlace(t *testing.T) {
	for _, c := range []struct {
		program, x string
		want       bool
	}{
		{"2,0;0,2/-2,-6/-1,-1/-2", "0 2", true},
		{"2,0;0,2/-2,-6/-1,-1/-2", "1 3/2", false},
		// Without rows of A nothing but the signs counts.
		{"2/-2", "0", true},
		{"2/-2", "1000000000", true},
		{"2/-2", "-1", false},
		{"2/-2", "1/1000000000", true},
		{"2/-2", "-1/1000000000", false},
		{"2/-2", "-1000000000", false},
		{"0,0,0;0,0,0;0,0,0/0,0,0", "0 0 0", true},
		{"0,0,0;0,0,0;0,0,0/0,0,0", "-1/3 0 0", false},
		{"0,0,0;0,0,0;0,0,0/0,0,0", "0 -1/3 7", false},
		{"0,0,0;0,0,0;0,0,0/0,0,0", "5 5 -1/3", false},
		// The sum of a row at B, and a bit off it, for rows and B of each sign.
		{"0/0/1/3", "3", true},
		{"0/0/1/3", "3000000/1000001", false},
		{"0/0/1/3", "2999999/1000000", false},
		{"0/0/1/3", "3000001/1000000", true},
		{"0/0/-1/-3", "3", true},
		{"0/0/-1/-3", "3000001/1000000", false},
		{"0/0/-1/-3", "2999999/1000000", true},
		{"0/0/3/1", "1/3", true},
		{"0/0/3/1", "333333333/1000000000", false},
		{"0/0/3/1", "333333334/1000000000", true},
		{"0/0/0/0", "7", true},
		{"0/0/0/1", "7", false},
		{"0/0/0/-1", "7", true},
		{"0/0/1/-1", "0", true},
		{"0/0/-1/0", "0", true},
		{"0/0/-1/0", "1/1000000000", false},
		{"0,0;0,0/0,0/2,3/2", "1/2 1/3", true},
		{"0,0;0,0/0,0/2,3/2", "1/2 1/4", false},
		{"0,0;0,0/0,0/3,2/2", "1/2 1/3", true},
		{"0,0;0,0/0,0/5,-7/0", "7 5", true},
		{"0,0;0,0/0,0/5,-7/0", "7 6", false},
		{"0,0;0,0/0,0/5,-7/0", "8 5", true},
		// All rows count: the first one, one between others, or the last one alone is not met.
		{"0/0/1;1;1;1/1,2,3,4", "4", true},
		{"0/0/1;1;1;1/1,2,3,4", "3", false},
		{"0/0/1;1;1;1/4,3,2,1", "3", false},
		{"0/0/1;1;1;1/1,2,4,3", "3", false},
		{"0/0/1;-1;1;-1/2,-2,2,-2", "2", true},
		{"0/0/1;-1;1;-1/2,-2,2,-1", "2", false},
		{"0/0/-1;1;1;1/-1,1,1,1", "2", false},
		{"0,0;0,0/0,0/1,0;0,1;1,1/1,1,3", "1 2", true},
		{"0,0;0,0/0,0/1,0;0,1;1,1/1,1,3", "1 1", false},
		{"0,0;0,0/0,0/1,0;0,1;1,1/1,1,3", "3 1/2", false},
		{"0,0;0,0/0,0/1,0;0,1;1,1/1,1,3", "1/2 3", false},
		// The rows are met, but a number is less than 0.
		{"0,0;0,0/0,0/1,1/2", "3 -1", false},
		{"0,0;0,0/0,0/1,1/2", "-1 3", false},
		{"0,0;0,0/0,0/-1,1/4", "-1 3", false},
		// What D and C are does not count.
		{"-20,20;20,-20/100,-100/1,1/2", "1 1", true},
		{"20,20;20,20/-100,100/1,1/2", "1 1", true},
		// Great numbers, at both sides of B.
		{"0,0;0,0/0,0/20,-20/100", "1000000000 999999995", true},
		{"0,0;0,0/0,0/20,-20/100", "1000000000 999999996", false},
		{"0,0;0,0/0,0/-20,20/-100", "1000000000 999999995", true},
		{"0,0;0,0/0,0/-20,20/-100", "1000000000 999999994", false},
		{"0,0,0,0;0,0,0,0;0,0,0,0;0,0,0,0/0,0,0,0/20,20,20,20/100", "1000000000 1000000000 1000000000 1000000000", true},
		{"0,0,0,0;0,0,0,0;0,0,0,0;0,0,0,0/0,0,0,0/-20,-20,-20,-20/-100", "1000000000 1000000000 1000000000 1/1000", false},
		{"0/0/20/100", "500000001/100000000", true},
		{"0/0/20/100", "499999999/100000000", false},
	} {
		p, x := programFrom(c.program), fracsIn(t, c.x)
		if yes, code := impl.IsPlace(p, x); yes != c.want || code != impl.ErrNone {
			t.Errorf("IsPlace(%s, %s) = %v, %d, want %v", c.program, c.x, yes, code, c.want)
		}
	}
}

// wideCase has fractions for two numbers, and whether they can all be written with a common denominator and
// a Num within the limits.
type wideCase struct {
	x      string
	within bool
}

// wideCases are at MaxFrac and 1000000000000, and beyond them.
func wideCases() []wideCase {
	return []wideCase{
		{"1/1000000000 0", true},
		{"1/1000000000 1", true},
		{"1/1000000000 1/1000000000", true},
		{"1/1000000000 999/500000000", true},
		{"1/999999999 1/3", true},
		{"1/999999999 1/2", false},
		{"1/1000000000 1/3", false},
		{"1/1000000000 1/999999999", false},
		{"1/31622 1/31623", true},
		{"1/31623 1/31624", false},
		{"1/64 1/15625000", true},
		{"1/65536 1/15625", false},
		{"1/32768 1/30518", true},
		// 10001 times 99990001 is 1000000000001, and 500000000 times 2000 is 1000000000000.
		{"1000000000 1/1000", true},
		{"1000000000 1/1001", false},
		{"1/1000 1000000000", true},
		{"1/1001 1000000000", false},
		{"-1000000000 1/1000", true},
		{"-1000000000 1/1001", false},
		{"99990001 1/10001", false},
		{"99990000 1/10001", true},
		{"-99990001 1/10001", false},
		{"1/10001 -99990000", true},
		{"999999999 1/1000000000", false},
		{"1000 1/1000000000", true},
		{"1001 1/1000000000", false},
		{"500000000 1/2000", true},
		{"500000001 1/2000", false},
		{"1000000000 1000000000", true},
	}
}

func TestPlacesWithWideFractions(t *testing.T) {
	for _, text := range []string{"0,0;0,0/0,0", "2,1;1,2/-3,5/1,1/2", "2,1;1,2/-3,5/20,-20;-20,20;20,20/-100,100,0"} {
		p := programFrom(text)
		for _, c := range wideCases() {
			x := fracsIn(t, c.x)
			if isWide(x, impl.MaxFrac, 1000000000000) == c.within {
				t.Fatalf("the case %s is wrong", c.x)
			}
			if !c.within {
				checkRefused(t, c.x, callPlace(p, x), impl.ErrLimit)
				continue
			}
			if yes, code := impl.IsPlace(p, x); yes != exactPlace(p, ratsOf(x)) || code != impl.ErrNone {
				t.Errorf("IsPlace(%s, %s) = %v, %d", text, c.x, yes, code)
			}
		}
	}
}

func TestPlacesAgainstExactOnes(t *testing.T) {
	yeses, noes, wide := [6]int{}, [6]int{}, 0
	for i, p := range somePrograms(1500) {
		n := len(p.C)
		for _, x := range somePoints(n, int64(i)) {
			want := exactPlace(p, ratsOf(x))
			switch {
			case isWide(x, impl.MaxFrac, 1000000000000):
				wide++
				checkRefused(t, "fractions beyond the limits", callPlace(p, x), impl.ErrLimit)
				continue
			case want:
				yeses[n]++
			default:
				noes[n]++
			}
			if yes, code := impl.IsPlace(p, x); yes != want || code != impl.ErrNone {
				t.Errorf("IsPlace(%v, %v) = %v, %d", p, x, yes, code)
			}
		}
	}
	if min(slices.Min(yeses[1:]), slices.Min(noes[1:]), wide) < 50 {
		t.Errorf("only %v places, %v others, and %d beyond the limits", yeses, noes, wide)
	}
}

func TestIsStationary(t *testing.T) {
	for _, c := range []struct {
		program, x, y string
		want          bool
	}{
		{"2,0;0,2/-2,-6/-1,-1/-2", "0 2", "2", true},
		{"2,0;0,2/-2,-6/-1,-1/-2", "0 2", "1", false},
		{"2,0;0,2/-2,-6/-1,-1/-2", "0 2", "3", false},
		{"2,0;0,2/-2,-6/-1,-1/-2", "0 2", "0", false},
		{"2,0;0,2/-2,-6/-1,-1/-2", "0 1", "2", false},
		{"2,0;0,2/-2,-6/-1,-1/-2", "1 2", "2", false},
		{"2,0;0,2/-2,-6/-1,-1/-2", "1 3", "0", false},
		// Without rows of A there are no multipliers.
		{"2/-2", "1", "", true},
		{"2/-2", "0", "", false},
		{"2/-2", "2", "", false},
		{"2/2", "0", "", true},
		{"2/2", "-1", "", false},
		{"3/-1", "1/3", "", true},
		{"3/-1", "333333333/1000000000", "", false},
		{"0/0", "0", "", true},
		{"0/0", "1000000000", "", true},
		{"0/0", "-1", "", false},
		{"0/1", "0", "", true},
		{"0/1", "1", "", false},
		{"0/-1", "0", "", false},
		// Stationary, and no minimum.
		{"-1/1", "1", "", true},
		{"-1/1", "0", "", true},
		{"-1/1", "2", "", false},
		{"0,1;1,0/-1,-1", "1 1", "", true},
		{"0,1;1,0/-1,-1", "1 2", "", false},
		// The multipliers are wrong in one number, also where x is a minimum.
		{"0,0;0,0/1,2/1,1/3", "3 0", "1", true},
		{"0,0;0,0/1,2/1,1/3", "3 0", "1/2", false},
		{"0,0;0,0/1,2/1,1/3", "3 0", "2", false},
		{"0,0;0,0/1,2/1,1/3", "3 0", "-1", false},
		{"0,0;0,0/1,1/1,1/3", "3/2 3/2", "1", true},
		{"0,0;0,0/1,1/1,1/3", "1/3 8/3", "1", true},
		{"0,0;0,0/1,1/1,1/3", "1/3 7/3", "1", false},
		{"0/3/1;2/1,2", "1", "3 0", true},
		{"0/3/1;2/1,2", "1", "0 3/2", true},
		{"0/3/1;2/1,2", "1", "1 1", true},
		{"0/3/1;2/1,2", "1", "1 2", false},
		{"0/3/1;2/1,2", "1", "5 -1", false},
		{"0/3/1;2/1,2", "1", "-1 2", false},
		{"0/3/1;2/1,1", "1", "3 0", true},
		{"0/3/1;2/1,1", "1", "1 1", false},
		{"0/3/1;2/1,3", "3/2", "0 3/2", true},
		{"0/3/1;2/1,3", "3/2", "3 0", false},
		{"0/3/1;2/1,3", "1", "3 0", false},
		{"1/0/1;1;1;1/1,2,3,2", "3", "0 0 3 0", true},
		{"1/0/1;1;1;1/1,2,3,2", "3", "0 3 0 0", false},
		{"1/0/1;1;1;1/1,2,3,2", "3", "0 0 0 3", false},
		{"1/0/1;1;1;1/1,2,3,2", "3", "1 0 2 0", false},
		// The remainder is beyond the limits of fractions, and is not asked for.
		{"20/0", "1000000000", "", false},
		{"0,0;0,0/0,0/20,20/100", "1000000000 1000000000", "0", true},
		{"0,0;0,0/0,0/20,20/100", "1000000000 1000000000", "1", false},
		{"0,0;0,0/100,100/-20,-20/-100", "0 0", "1000000000", false},
		{"0,0;0,0/100,100/-20,-20/0", "0 0", "1000000000", true},
	} {
		p, x, y := programFrom(c.program), fracsIn(t, c.x), fracsIn(t, c.y)
		if yes, code := impl.IsStationary(p, x, y); yes != c.want || code != impl.ErrNone {
			t.Errorf("IsStationary(%s, %s, %s) = %v, %d, want %v", c.program, c.x, c.y, yes, code, c.want)
		}
	}
}

// TestStationaryWithWideFractions has them in x alone, in y alone, and in both together.
func TestStationaryWithWideFractions(t *testing.T) {
	for _, c := range wideCases() {
		z := fracsIn(t, c.x)
		for _, given := range []struct {
			program string
			x, y    []frac
		}{
			{"0,0;0,0/0,0", z, nil},
			{"2,1;1,2/-3,5/20,-20;-20,20;20,20/-100,100,0", z, wholes(0, 0, 0)},
			{"0/0/1;-1/0,0", wholes(0), z},
			{"2/1/20/-100", z[:1], z[1:]},
			{"2,1;1,2/3,4/20,-20;-20,20/-100,-100", []frac{{Den: 1}, z[1]}, []frac{z[0], {Den: 1}}},
		} {
			p := programFrom(given.program)
			if !c.within {
				checkRefused(t, c.x, callStationary(p, given.x, given.y), impl.ErrLimit)
				continue
			}
			yes, code := impl.IsStationary(p, given.x, given.y)
			if yes != exactStationary(p, ratsOf(given.x), ratsOf(given.y)) || code != impl.ErrNone {
				t.Errorf("IsStationary(%v, %v, %v) = %v, %d", p, given.x, given.y, yes, code)
			}
		}
	}
}

// exactStationary asks the slopes and the rows, instead of the problem.
func exactStationary(p program, x, y []*big.Rat) bool {
	if !exactPlace(p, x) {
		return false
	}
	slopes := exactSlopes(p, x)
	for j, row := range p.A {
		slack := new(big.Rat).Sub(sumOfProducts(row, x), big.NewRat(p.B[j], 1))
		if y[j].Sign() < 0 || y[j].Sign() != 0 && slack.Sign() != 0 {
			return false
		}
		for i, a := range row {
			slopes[i].Sub(slopes[i], new(big.Rat).Mul(big.NewRat(a, 1), y[j]))
		}
	}
	for i, slope := range slopes {
		if slope.Sign() < 0 || slope.Sign() != 0 && x[i].Sign() != 0 {
			return false
		}
	}
	return true
}

// TestStationaryAgainstExactOnes has all solutions by sets of the problems, and such as are wrong in one
// number.
func TestStationaryAgainstExactOnes(t *testing.T) {
	yeses, noes := map[[2]int]int{}, map[[2]int]int{}
	for _, p := range somePrograms(1000) {
		n := len(p.C)
		shape := [2]int{n, len(p.B)}
		for _, z := range exactFactsOf(exactProgramProblem(p)).solutions {
			for i := -1; i < len(z); i++ {
				for _, change := range []*big.Rat{big.NewRat(1, 7), big.NewRat(-1, 1)} {
					changed := slices.Clone(z)
					if i >= 0 {
						changed[i] = new(big.Rat).Add(z[i], change)
					}
					if isBeyond(changed...) || isWide(fracsFrom(changed), impl.MaxFrac, 1000000000000) {
						continue
					}
					want := exactStationary(p, changed[:n], changed[n:])
					list := fracsFrom(changed)
					if yes, code := impl.IsStationary(p, list[:n], list[n:]); yes != want || code != impl.ErrNone {
						t.Errorf("IsStationary(%v, %v) = %v, %d", p, list, yes, code)
					}
					if want {
						yeses[shape]++
					} else {
						noes[shape]++
					}
				}
			}
		}
	}
	for _, shape := range programShapes() {
		if min(yeses[shape], noes[shape]) < 20 {
			t.Errorf("%v: only %d stationary, and %d not so", shape, yeses[shape], noes[shape])
		}
	}
}

// wantedMinimum is what MinimumOf tells of the first feasible set of the problem.
type wantedMinimum struct {
	x, y  []*big.Rat
	value *big.Rat
}

// exactMinimum returns nil if no set is feasible. It does not ask whether D is semidefinite.
func exactMinimum(p program) *wantedMinimum {
	q, n := exactProgramProblem(p), len(p.C)
	for _, s := range allSets(len(q.M)) {
		point := exactPoint(q, s)
		if point == nil || len(negativesOf(point)) > 0 {
			continue
		}
		for i := range point {
			if s>>i&1 == 0 {
				point[i] = new(big.Rat)
			}
		}
		return &wantedMinimum{x: point[:n], y: point[n:], value: exactValue(p, point[:n])}
	}
	return nil
}

func exactConvex(p program) bool {
	_, semidefinite := exactForm(ratRows(p.D, new(big.Rat)))
	return semidefinite
}

// corners returns all points of n numbers that fulfil the equations of must, and n less as many of those of
// may, each with its right side behind it, if they have just one solution.
func corners(n int, must, may [][]*big.Rat) [][]*big.Rat {
	list := [][]*big.Rat{}
	for _, s := range allSets(len(may)) {
		if countOf(s)+len(must) != n {
			continue
		}
		equations := [][]*big.Rat{}
		for _, row := range must {
			equations = append(equations, slices.Clone(row))
		}
		for i, row := range may {
			if s>>i&1 == 1 {
				equations = append(equations, slices.Clone(row))
			}
		}
		if x := exactSolution(equations); x != nil {
			list = append(list, x)
		}
	}
	return list
}

// bounds returns the equations that hold at the bounds of places, with B or with 0 on the right.
func bounds(p program, withB bool) [][]*big.Rat {
	list := [][]*big.Rat{}
	for i := range p.C {
		row := zerosOf(len(p.C) + 1)
		row[i] = big.NewRat(1, 1)
		list = append(list, row)
	}
	for j, row := range ratRows(p.A, new(big.Rat)) {
		right := new(big.Rat)
		if withB {
			right.SetInt64(p.B[j])
		}
		list = append(list, append(row, right))
	}
	return list
}

// exactCorners returns the places at the corners of all places; there is one if there is any place.
func exactCorners(p program) [][]*big.Rat {
	return slices.DeleteFunc(corners(len(p.C), nil, bounds(p, true)), func(x []*big.Rat) bool { return !exactPlace(p, x) })
}

// fallsWithoutEnd reports whether there is a direction that leads from places to places, along which a
// program that is convex falls without end: without a bend, and downwards.
func fallsWithoutEnd(p program) bool {
	n := len(p.C)
	may := bounds(p, false)
	for _, row := range ratRows(p.D, new(big.Rat)) {
		may = append(may, append(row, new(big.Rat)))
	}
	whole := []*big.Rat{}
	for range n + 1 {
		whole = append(whole, big.NewRat(1, 1))
	}
	directions := program{A: p.A, B: make([]int64, len(p.B))}
	for _, u := range corners(n, [][]*big.Rat{whole}, may) {
		straight := !slices.ContainsFunc(p.D, func(row []int64) bool { return sumOfProducts(row, u).Sign() != 0 })
		if straight && exactPlace(directions, u) && sumOfProducts(p.C, u).Sign() < 0 {
			return true
		}
	}
	return false
}

func TestMinimumOf(t *testing.T) {
	for _, c := range []struct{ program, x, y, value string }{
		{"2/-2", "1", "", "-1"},
		{"2,0;0,2/-2,-6/-1,-1/-2", "0 2", "2", "-8"},
		{"0,0;0,0/1,2/1,1/3", "3 0", "1", "3"},
		{"0/-3/-1;-2/-1,-2", "1", "3 0", "-3"},
		// One number, which the minimum has at 0, or not.
		{"2/2", "0", "", "0"},
		{"2/0", "0", "", "0"},
		{"0/0", "0", "", "0"},
		{"0/5", "0", "", "0"},
		{"20/-100", "5", "", "-250"},
		{"3/-1", "1/3", "", "-1/6"},
		{"7/-5", "5/7", "", "-25/14"},
		{"7/-5/1/2", "2", "9", "4"},
		{"7/-5/1/0", "5/7", "0", "-25/14"},
		{"7/-5/-3/-1", "1/3", "8/9", "-23/18"},
		{"0/1/3/1", "1/3", "1/3", "1/3"},
		{"0/0/3/1", "1/3", "0", "0"},
		{"0/-4/-3;-1/-2,-5", "2/3", "4/3 0", "-8/3"},
		// All of a program of five numbers, at once or one by one.
		{"2,0,0,0,0;0,4,0,0,0;0,0,6,0,0;0,0,0,8,0;0,0,0,0,10/-2,-4,6,-8,-5", "1 1 0 1 1/2", "", "-33/4"},
		{"0,0,0,0,0;0,0,0,0,0;0,0,0,0,0;0,0,0,0,0;0,0,0,0,0/1,2,3,4,5", "0 0 0 0 0", "", "0"},
		{"0,0,0,0;0,0,0,0;0,0,0,0;0,0,0,0/3,5,2,7/1,2,1,3/6", "0 0 6 0", "2", "12"},
		// Semidefinite and not definite: the minimum lies on a line, and the first set tells one.
		{"1,1;1,1/-1,-1", "1 0", "", "-1/2"},
		{"1,1;1,1/-1,-1/0,4/1", "0 1", "0", "-1/2"},
		{"1,-1;-1,1/0,0", "0 0", "", "0"},
		{"1,-1;-1,1/0,0/1,1/2", "1 1", "0", "0"},
		{"1,2;2,4/-3,-6", "3 0", "", "-9/2"},
		{"1,2;2,4/-3,-7", "0 7/4", "", "-49/8"},
		{"0,0;0,2/1,-2", "0 1", "", "-1"},
		{"0,0;0,2/0,-2", "0 1", "", "-1"},
		{"0,0;0,2/-1,-2/-1,0/-4", "4 1", "1", "-5"},
		// Several sets are feasible: the first one counts.
		{"0,0;0,0/1,1/1,1/3", "3 0", "1", "3"},
		{"0,0;0,0/0,0/1,1/3", "3 0", "0", "0"},
		{"0,0;0,0/0,0/1,2/3", "3 0", "0", "0"},
		{"0/3/1;2/1,2", "1", "3 0", "3"},
		{"0/3/2;1/2,1", "1", "3/2 0", "3"},
		{"0/0/1;-1/1,-2", "1", "0 0", "0"},
		{"0/0/-1;1/-2,1", "2", "0 0", "0"},
		{"0,0,0;0,0,0;0,0,0/2,1,1/1,1,0;0,1,1/2,2", "0 2 0", "1 0", "2"},
		{"0,0,0;0,0,0;0,0,0/1,1,2/1,0,1;0,1,1/1,1", "1 1 0", "1 1", "2"},
	} {
		p := programFrom(c.program)
		x, y, value, code := impl.MinimumOf(p)
		text, _ := impl.FracText(value)
		if textsOf(t, x) != c.x || textsOf(t, y) != c.y || text != c.value || code != impl.ErrNone {
			t.Errorf("MinimumOf(%s) = %v, %v, %v, %d, want %s and %s with %s", c.program, x, y, value, code, c.x, c.y, c.value)
		}
	}
}

func TestProgramsWithoutMinimum(t *testing.T) {
	for _, c := range []struct {
		program string
		code    int64
	}{
		// Without a place.
		{"2/0/0/1", impl.ErrNotFound},
		{"2/0/-1/1", impl.ErrNotFound},
		{"0/0/1;-1/2,-1", impl.ErrNotFound},
		{"2,0;0,2/1,1/1,1;-1,-1/3,-2", impl.ErrNotFound},
		{"2,0;0,2/1,1/-1,0;1,1;0,-1/-1,3,-1", impl.ErrNotFound},
		// They fall without end, with rows and without, and where D is not 0.
		{"0/-1", impl.ErrNotFound},
		{"0/-1/1/3", impl.ErrNotFound},
		{"0,0;0,0/1,-1/1,-1/-3", impl.ErrNone},
		{"0,0;0,0/1,-2/1,-1/-3", impl.ErrNotFound},
		{"1,-1;-1,1/1,-2", impl.ErrNotFound},
		{"1,-1;-1,1/1,-1", impl.ErrNone},
		{"1,-1;-1,1/2,-1", impl.ErrNone},
		{"0,0;0,2/-1,-2", impl.ErrNotFound},
		{"0,0,0;0,0,0;0,0,0/1,1,-1/1,1,1/1", impl.ErrNotFound},
		// Without a place, and down without end if there were any.
		{"0/-1/0/1", impl.ErrNotFound},
		// D is not semidefinite, whatever else there is: a minimum, a solution, none, and no place.
		{"-1/1", impl.ErrState},
		{"-1/-1", impl.ErrState},
		{"-20/0/-1/0", impl.ErrState},
		{"-1/1/0/1", impl.ErrState},
		{"0,1;1,0/1,1", impl.ErrState},
		{"0,1;1,0/0,0", impl.ErrState},
		{"1,2;2,1/1,1", impl.ErrState},
		{"1,2;2,3/1,1/1,1/1", impl.ErrState},
		{"0,0;0,-1/1,1/-1,-1/-2", impl.ErrState},
		{"2,1,1;1,2,-2;1,-2,2/0,0,0", impl.ErrState},
		{"20,0,0,0,0;0,20,0,0,0;0,0,20,0,0;0,0,0,20,0;0,0,0,0,-1/1,1,1,1,1", impl.ErrState},
	} {
		p := programFrom(c.program)
		if c.code == impl.ErrNone {
			if _, _, _, code := impl.MinimumOf(p); code != c.code || exactMinimum(p) == nil {
				t.Errorf("MinimumOf(%s): code %d", c.program, code)
			}
			continue
		}
		checkRefused(t, c.program, callMinimum(p), c.code)
		if mustConvex(t, p) == (c.code == impl.ErrState) {
			t.Errorf("IsConvex(%s) is wrong", c.program)
		}
	}
}

// TestMinimaWithValuesBeyondLimits have numbers x within them.
func TestMinimaWithValuesBeyondLimits(t *testing.T) {
	for _, text := range []string{
		"20,-5,7,0,5;-5,19,-3,-5,6;7,-3,19,-8,3;0,-5,-8,20,-3;5,6,3,-3,20/-98,-99,-100,-100,-98",
		"20,-6,-2,5,-2;-6,20,-8,10,5;-2,-8,20,-5,-9;5,10,-5,19,-2;-2,5,-9,-2,19/-99,-99,-99,-100,-100",
	} {
		p := programFrom(text)
		want := exactMinimum(p)
		if isBeyond(want.x...) || !isBeyond(want.value) || !mustConvex(t, p) {
			t.Fatalf("%s has the minimum %v with %v", text, want.x, want.value)
		}
		checkRefused(t, text, callMinimum(p), impl.ErrLimit)
		if yes, code := impl.IsStationary(p, fracsFrom(want.x), nil); !yes || code != impl.ErrNone {
			t.Errorf("IsStationary(%s, %v) = %v, %d", text, want.x, yes, code)
		}
	}
}

// checkMinimum compares with the minimum of the first feasible set, and returns what kind of program it is.
func checkMinimum(t *testing.T, p program) string {
	t.Helper()
	if !exactConvex(p) {
		checkRefused(t, "a program that is not convex", callMinimum(p), impl.ErrState)
		return "not convex"
	}
	want := exactMinimum(p)
	if want == nil {
		checkRefused(t, "a program without a minimum", callMinimum(p), impl.ErrNotFound)
		return "none"
	}
	if isBeyond(want.value) {
		checkRefused(t, "a value beyond the limits", callMinimum(p), impl.ErrLimit)
		return "beyond"
	}
	x, y, value, code := impl.MinimumOf(p)
	if !sameFracs(x, want.x) || !sameFracs(y, want.y) || !sameFracs([]frac{value}, []*big.Rat{want.value}) || code != impl.ErrNone {
		t.Errorf("MinimumOf(%v) = %v, %v, %v, %d, want %v", p, x, y, value, code, want)
	}
	return "told"
}

func TestMinimaAgainstExactOnes(t *testing.T) {
	counts := map[string]map[[2]int]int{}
	for _, p := range append(somePrograms(1800), greatPrograms(300)...) {
		kind := checkMinimum(t, p)
		if counts[kind] == nil {
			counts[kind] = map[[2]int]int{}
		}
		counts[kind][[2]int{len(p.C), len(p.B)}]++
	}
	for _, shape := range programShapes() {
		if min(counts["told"][shape], counts["none"][shape], counts["not convex"][shape]) < 10 {
			t.Errorf("%v: only %d minima, %d without any, %d not convex", shape, counts["told"][shape], counts["none"][shape], counts["not convex"][shape])
		}
	}
	if counts["beyond"][[2]int{5, 0}] < 20 {
		t.Errorf("only %v with values beyond the limits", counts["beyond"])
	}
}

// greatPrograms returns the same programs at each call, with five numbers and a great diagonal, so that minima
// have great numbers.
func greatPrograms(count int) []program {
	source := rand.New(rand.NewSource(4))
	list := []program{}
	for i := range count {
		p := evenProgram(5-i%2, i%2, 0, 0, 0, 0)
		for r := range p.D {
			p.C[r] = source.Int63n(3) - 100
			for c := range r {
				p.D[r][c] = source.Int63n(21) - 10
				p.D[c][r] = p.D[r][c]
			}
			p.D[r][r] = 20 - source.Int63n(2)
		}
		for j := range p.A {
			p.B[j] = source.Int63n(3) - 100
			for k := range p.A[j] {
				p.A[j][k] = -source.Int63n(21)
			}
		}
		list = append(list, p)
	}
	return list
}

// smallPoints returns the points of whole numbers 0 to 3, and of their halves.
func smallPoints(n int) [][]*big.Rat {
	list := [][]*big.Rat{}
	for number := range int64(1) << (2 * n) {
		whole, half := zerosOf(n), zerosOf(n)
		for i := range n {
			whole[i].SetInt64(number >> (2 * i) & 3)
			half[i].SetFrac64(number>>(2*i)&3, 2)
		}
		list = append(list, whole, half)
	}
	return list
}

// nearbyPoints returns points a bit off x, in each direction of one or two numbers.
func nearbyPoints(x []*big.Rat) [][]*big.Rat {
	list := [][]*big.Rat{}
	for i := range x {
		for k := range i + 1 {
			for _, signs := range [][2]int64{{1, 1}, {1, -1}, {-1, 1}, {-1, -1}} {
				y := slices.Clone(x)
				y[i] = new(big.Rat).Add(y[i], big.NewRat(signs[0], 1000))
				y[k] = new(big.Rat).Add(y[k], big.NewRat(signs[1], 1000))
				list = append(list, y)
			}
		}
	}
	return list
}

// TestMinimaAreLeastPlaces is promise 9: minima are places with multipliers that make them stationary, and
// no place has a lesser value: no corner, none near, and no small point.
func TestMinimaAreLeastPlaces(t *testing.T) {
	told, others := [6]int{}, 0
	for _, p := range append(somePrograms(900), greatPrograms(40)...) {
		x, y, value, code := impl.MinimumOf(p)
		if code != impl.ErrNone {
			continue
		}
		n := len(p.C)
		told[n]++
		if yes, code := impl.IsPlace(p, x); !yes || !exactPlace(p, ratsOf(x)) || code != impl.ErrNone {
			t.Errorf("IsPlace(%v, %v) = %v, %d", p, x, yes, code)
		}
		if yes, code := impl.IsStationary(p, x, y); !yes || !exactStationary(p, ratsOf(x), ratsOf(y)) || code != impl.ErrNone {
			t.Errorf("IsStationary(%v, %v, %v) = %v, %d", p, x, y, yes, code)
		}
		if got, code := impl.ValueAt(p, x); code == impl.ErrNone && got != value || code != impl.ErrNone && !isWide(x, 10000, 10000000) {
			t.Errorf("MinimumOf(%v) = %v with %v, but ValueAt is %v, %d", p, x, value, got, code)
		}
		for _, other := range slices.Concat(exactCorners(p), nearbyPoints(ratsOf(x)), smallPoints(n)) {
			if exactPlace(p, other) {
				others++
				if exactValue(p, other).Cmp(ratOf(value)) < 0 {
					t.Errorf("MinimumOf(%v) = %v with %v, but at %v it is %v", p, x, value, other, exactValue(p, other))
				}
			}
		}
	}
	if slices.Min(told[1:]) < 25 || others < 10000 {
		t.Errorf("only %v minima, and %d other places", told, others)
	}
}

// TestOnlyConvexProgramsHaveMinima is promise 17. A convex program has a minimum unless there is no place, or
// it falls without end, and then it is told.
func TestOnlyConvexProgramsHaveMinima(t *testing.T) {
	empty, falling, told, solved := 0, 0, 0, 0
	for _, p := range somePrograms(1200) {
		_, _, _, code := impl.MinimumOf(p)
		semidefinite, _ := impl.IsOfKind(p.D, impl.KindSemidefinite)
		convex := exactConvex(p)
		if mustConvex(t, p) != convex || semidefinite != convex || (code == impl.ErrState) == convex {
			t.Errorf("%v: IsConvex = %v, IsOfKind = %v, MinimumOf has the code %d, want %v", p, mustConvex(t, p), semidefinite, code, convex)
		}
		want := int64(impl.ErrNone)
		switch {
		case !convex:
			want = impl.ErrState
			if exactMinimum(p) != nil {
				solved++
			}
		case len(exactCorners(p)) == 0:
			empty, want = empty+1, impl.ErrNotFound
		case fallsWithoutEnd(p):
			falling, want = falling+1, impl.ErrNotFound
		default:
			told++
		}
		if code != want {
			t.Errorf("MinimumOf(%v): code %d, want %d", p, code, want)
		}
	}
	if min(empty, falling, told, solved) < 90 {
		t.Errorf("only %d without a place, %d that fall without end, %d told, and %d not convex with solutions", empty, falling, told, solved)
	}
}

func TestIsConvex(t *testing.T) {
	for _, c := range []struct {
		program string
		want    bool
	}{
		{"2/-2", true}, {"0/0", true}, {"-1/0", false}, {"20/100", true}, {"-20/100", false},
		{"1,1;1,1/0,0", true}, {"1,2;2,1/0,0", false}, {"1,2;2,4/0,0", true}, {"1,2;2,3/0,0", false}, {"0,1;1,0/0,0", false},
		{"0,1;1,20/0,0", false}, {"0,0;0,1/0,0", true}, {"0,0;0,-1/0,0", false}, {"-1,0;0,-1/0,0", false},
		// All minors of beginnings are 0 or more, but D is not semidefinite.
		{"0,0,0;0,1,0;0,0,-1/0,0,0", false},
		{"1,1,0;1,1,0;0,0,-1/0,0,0", false},
		{"2,-1,-1;-1,2,-1;-1,-1,2/0,0,0", true},
		{"2,-1,-1;-1,2,-1;-1,-1,1/0,0,0", false},
		// Copositive, and not semidefinite.
		{"0,20;20,0/1,1/1,1/1", false},
		{"1,-1,1,1,-1;-1,1,-1,1,1;1,-1,1,-1,1;1,1,-1,1,-1;-1,1,1,-1,1/0,0,0,0,0", false},
		{"20,20,20,20,20;20,20,20,20,20;20,20,20,20,20;20,20,20,20,20;20,20,20,20,20/0,0,0,0,0", true},
		{"20,20,20,20,20;20,20,20,20,20;20,20,19,20,20;20,20,20,20,20;20,20,20,20,20/0,0,0,0,0", false},
	} {
		p := programFrom(c.program)
		if mustConvex(t, p) != c.want || exactConvex(p) != c.want {
			t.Errorf("IsConvex(%s) = %v, exactly %v, want %v", c.program, mustConvex(t, p), exactConvex(p), c.want)
		}
	}
}

func TestDualProgram(t *testing.T) {
	for _, c := range [][2]string{
		{"0,0;0,0/1,2/1,1/3", "0/-3/-1;-1/-1,-2"},
		{"0/5/7/-9", "0/9/-7/-5"},
		{"0/0/0/0", "0/0/0/0"},
		{"0/1/2;3;4;-5/6,-7,8,9", "0,0,0,0;0,0,0,0;0,0,0,0;0,0,0,0/-6,7,-8,-9/-2,-3,-4,5/-1"},
		{"0,0,0,0;0,0,0,0;0,0,0,0;0,0,0,0/1,2,3,4/5,6,7,8/9", "0/-9/-5;-6;-7;-8/-1,-2,-3,-4"},
		{"0,0,0;0,0,0;0,0,0/1,-2,3/4,5,6;7,8,-9/10,-11", "0,0;0,0/-10,11/-4,-7;-5,-8;-6,9/-1,2,-3"},
		{"0,0;0,0/100,-100/20,-20;-20,20/-100,100", "0,0;0,0/100,-100/-20,20;20,-20/-100,100"},
	} {
		dual, code := impl.DualProgram(programFrom(c[0]))
		if !samePrograms(dual, programFrom(c[1])) || !impl.IsProgram(dual) || code != impl.ErrNone {
			t.Errorf("DualProgram(%s) = %v, %d, want %s", c[0], dual, code, c[1])
		}
	}
	for _, text := range []string{
		"0/0", "0/1", "0,0;0,0/1,2", "0,0,0,0,0;0,0,0,0,0;0,0,0,0,0;0,0,0,0,0;0,0,0,0,0/1,2,3,4,5", "2/-2",
		"1/1/1/1", "-1/1/1/1", "0,0;0,1/1,2/1,1/3", "1,0;0,0/1,2/1,1/3", "0,1;1,0/1,2/1,1/3", "0,0,-1;0,0,0;-1,0,0/1,2,3/1,1,1/3",
		"2,0;0,2/-2,-6/-1,-1/-2",
	} {
		checkRefused(t, text, callDual(programFrom(text)), impl.ErrState)
	}
}

// linearPrograms returns the same linear programs at each call, each with a row of A at least.
func linearPrograms(count int) []program {
	list := []program{}
	for _, p := range somePrograms(count) {
		if len(p.A) > 0 {
			p.D = evenProgram(len(p.C), 0, 0, 0, 0, 0).D
			list = append(list, p)
		}
	}
	return list
}

// TestDuals is promise 9 for linear programs: the value of a dual is opposite, duals of duals are the same
// programs, and a program has a minimum exactly if its dual has one.
func TestDuals(t *testing.T) {
	told, none := map[[2]int]int{}, map[[2]int]int{}
	for _, p := range linearPrograms(2700) {
		shape := [2]int{len(p.C), len(p.B)}
		dual, code := impl.DualProgram(p)
		if len(dual.C) != shape[1] || len(dual.B) != shape[0] || !impl.IsProgram(dual) || code != impl.ErrNone {
			t.Fatalf("DualProgram(%v) = %v, %d", p, dual, code)
		}
		if again, code := impl.DualProgram(dual); !samePrograms(again, p) || code != impl.ErrNone {
			t.Errorf("DualProgram(%v) = %v, and of this it is %v, %d", p, dual, again, code)
		}
		x, y, value, a := impl.MinimumOf(p)
		u, v, opposite, b := impl.MinimumOf(dual)
		if a != b {
			t.Errorf("MinimumOf(%v) has the code %d, but its dual %d", p, a, b)
		}
		if a != impl.ErrNone {
			none[shape]++
			continue
		}
		told[shape]++
		if value.Num != -opposite.Num || value.Den != opposite.Den {
			t.Errorf("MinimumOf(%v) has the value %v, but its dual %v", p, value, opposite)
		}
		// Minima and multipliers change places.
		if yes, code := impl.IsStationary(dual, y, x); !yes || code != impl.ErrNone {
			t.Errorf("IsStationary(%v, %v, %v) = %v, %d", dual, y, x, yes, code)
		}
		if yes, code := impl.IsStationary(p, v, u); !yes || code != impl.ErrNone {
			t.Errorf("IsStationary(%v, %v, %v) = %v, %d", p, v, u, yes, code)
		}
	}
	for _, shape := range programShapes() {
		if shape[1] > 0 && min(told[shape], none[shape]) < 15 {
			t.Errorf("%v: only %d values, and %d programs without a minimum", shape, told[shape], none[shape])
		}
	}
}

func TestAddPrograms(t *testing.T) {
	for _, c := range []struct {
		p, q, want string
		code       int64
	}{
		{"1/2", "3/4", "4/6", impl.ErrNone},
		{"1/2/3/4", "5/6", "6/8/3/4", impl.ErrNone},
		{"5/6", "1/2/3/4", "6/8/3/4", impl.ErrNone},
		{"1/2/3/4", "5/6/7/8", "6/8/3;7/4,8", impl.ErrNone},
		{"5/6/7/8", "1/2/3/4", "6/8/7;3/8,4", impl.ErrNone},
		{"1/2/3;4/5,6", "-1/-2/3;7/8,9", "0/0/3;4;3;7/5,6,8,9", impl.ErrNone},
		{"1,2;2,3/4,5/6,7/8", "-9,10;10,11/12,-13/14,-15;16,17/18,19", "-8,12;12,14/16,-8/6,7;14,-15;16,17/8,18,19", impl.ErrNone},
		{"0,1;1,0/0,0", "3,-1;-1,4/1,1", "3,0;0,4/1,1", impl.ErrNone},
		// With more rows together than are allowed.
		{"0/0/1;2;3/1,2,3", "0/0/4/4", "0/0/1;2;3;4/1,2,3,4", impl.ErrNone},
		{"0/0/1;2;3/1,2,3", "0/0/4;5/4,5", "", impl.ErrLimit},
		{"0/0/4;5/4,5", "0/0/1;2;3/1,2,3", "", impl.ErrLimit},
		{"0/0/1;2;3;4/1,2,3,4", "0/0/1;2;3;4/1,2,3,4", "", impl.ErrLimit},
		{"0/0/1;2;3;4/1,2,3,4", "0/0", "0/0/1;2;3;4/1,2,3,4", impl.ErrNone},
		{"0,0,0,0;0,0,0,0;0,0,0,0;0,0,0,0/1,1,1,1/1,2,3,4/5", "0,0,0,0;0,0,0,0;0,0,0,0;0,0,0,0/1,1,1,1/1,2,3,4/5", "", impl.ErrLimit},
		// Numbers of D and C at their limits and beyond them, on both sides.
		{"10/60", "10/40", "20/100", impl.ErrNone},
		{"10/60", "11/40", "", impl.ErrLimit},
		{"10/60", "10/41", "", impl.ErrLimit},
		{"-10/-60", "-10/-40", "-20/-100", impl.ErrNone},
		{"-11/-60", "-10/-40", "", impl.ErrLimit},
		{"-10/-61", "-10/-40", "", impl.ErrLimit},
		{"20/100", "20/100", "", impl.ErrLimit},
		{"20/100", "-20/-100", "0/0", impl.ErrNone},
		{"0,15;15,0/0,0", "0,5;5,0/0,0", "0,20;20,0/0,0", impl.ErrNone},
		{"0,15;15,0/0,0", "0,6;6,0/0,0", "", impl.ErrLimit},
		{"0,0;0,15/0,0", "0,0;0,6/0,0", "", impl.ErrLimit},
		{"0,0;0,0/0,70", "0,0;0,0/0,31", "", impl.ErrLimit},
		// A and B are not added.
		{"1/1/20/100", "1/1/20/100", "2/2/20;20/100,100", impl.ErrNone},
		// Not as many C, also beyond the limits.
		{"1/2", "1,0;0,1/2,2", "", impl.ErrRange},
		{"1,0;0,1/2,2", "1/2", "", impl.ErrRange},
		{"20/100/1;1;1/1,1,1", "20,0;0,1/100,2/1,1;1,1;1,1/1,1,1", "", impl.ErrRange},
		{"0,0,0,0,0;0,0,0,0,0;0,0,0,0,0;0,0,0,0,0;0,0,0,0,0/1,2,3,4,5", "0,0,0,0;0,0,0,0;0,0,0,0;0,0,0,0/1,2,3,4/1,1,1,1/5", "", impl.ErrRange},
	} {
		p, q := programFrom(c.p), programFrom(c.q)
		if c.code != impl.ErrNone {
			checkRefused(t, c.p+" and "+c.q, callSum(p, q), c.code)
			continue
		}
		sum, code := impl.AddPrograms(p, q)
		if !samePrograms(sum, programFrom(c.want)) || code != impl.ErrNone {
			t.Errorf("AddPrograms(%s, %s) = %v, %d, want %s", c.p, c.q, sum, code, c.want)
		}
	}
}

func TestScaleProgram(t *testing.T) {
	for _, c := range []struct {
		p    string
		k    int64
		want string
		code int64
	}{
		{"1/5", 1, "1/5", impl.ErrNone},
		{"1/5", 20, "20/100", impl.ErrNone},
		{"-1/-5", 20, "-20/-100", impl.ErrNone},
		{"0/0/20;-20/100,-100", 20, "0/0/20;-20/100,-100", impl.ErrNone},
		{"20/100/20/100", 1, "20/100/20/100", impl.ErrNone},
		{"2,0;0,2/-2,-6/-1,-1/-2", 3, "6,0;0,6/-6,-18/-1,-1/-2", impl.ErrNone},
		{"1,-2,3;-2,4,0;3,0,-5/6,7,-8/9,10,11;12,13,14/15,16", 4, "4,-8,12;-8,16,0;12,0,-20/24,28,-32/9,10,11;12,13,14/15,16", impl.ErrNone},
		// Beyond the limits, by D or by C alone, above or below.
		{"2,0;0,2/-2,-6/-1,-1/-2", 20, "", impl.ErrLimit},
		{"2/0", 10, "20/0", impl.ErrNone},
		{"2/0", 11, "", impl.ErrLimit},
		{"-2/0", 10, "-20/0", impl.ErrNone},
		{"-2/0", 11, "", impl.ErrLimit},
		{"0/10", 10, "0/100", impl.ErrNone},
		{"0/10", 11, "", impl.ErrLimit},
		{"0/-6", 16, "0/-96", impl.ErrNone},
		{"0/-6", 17, "", impl.ErrLimit},
		{"0,7;7,0/0,0", 3, "", impl.ErrLimit},
		{"0,0;0,7/0,0", 3, "", impl.ErrLimit},
		{"0,0;0,0/0,51", 2, "", impl.ErrLimit},
		{"20/100", 2, "", impl.ErrLimit},
		// No factor, also where a result would be within the limits, or the same.
		{"0/0", 0, "", impl.ErrRange},
		{"0/0", 21, "", impl.ErrRange},
		{"0/0", -1, "", impl.ErrRange},
		{"20/100", 0, "", impl.ErrRange},
		{"20/100", 21, "", impl.ErrRange},
		{"20/100", leastInt, "", impl.ErrRange},
		{"20/100", leastInt + 1, "", impl.ErrRange},
		{"20/100", greatestInt, "", impl.ErrRange},
		{"0/0", 1<<32 + 1, "", impl.ErrRange},
		{"1/1", 1 << 62, "", impl.ErrRange},
	} {
		p := programFrom(c.p)
		if c.code != impl.ErrNone {
			checkRefused(t, c.p, callMultiple(p, c.k), c.code)
			continue
		}
		multiple, code := impl.ScaleProgram(p, c.k)
		if !samePrograms(multiple, programFrom(c.want)) || code != impl.ErrNone {
			t.Errorf("ScaleProgram(%s, %d) = %v, %d, want %s", c.p, c.k, multiple, code, c.want)
		}
	}
}

// TestSumsAndMultiplesHaveTheirValues: values are added and multiplied too, places of a sum are places of
// both programs, and a multiple has the same minima.
func TestSumsAndMultiplesHaveTheirValues(t *testing.T) {
	list := somePrograms(600)
	sums, multiples, minima := 0, 0, 0
	for i, p := range list {
		n, q := len(p.C), list[(i*7+15)%len(list)]
		for _, x := range somePoints(n, int64(i))[:3] {
			if sum, code := impl.AddPrograms(p, q); code == impl.ErrNone {
				sums++
				want := new(big.Rat).Add(exactValue(p, ratsOf(x)), exactValue(q, ratsOf(x)))
				value, code := impl.ValueAt(sum, x)
				checkRat(t, "the value of a sum", value, code, want)
				place, _ := impl.IsPlace(sum, x)
				if place != (exactPlace(p, ratsOf(x)) && exactPlace(q, ratsOf(x))) {
					t.Errorf("IsPlace of the sum of %v and %v at %v = %v", p, q, x, place)
				}
			}
			multiple, code := impl.ScaleProgram(p, 3)
			if code != impl.ErrNone {
				continue
			}
			multiples++
			value, code := impl.ValueAt(multiple, x)
			checkRat(t, "the value of a multiple", value, code, new(big.Rat).Mul(big.NewRat(3, 1), exactValue(p, ratsOf(x))))
		}
		multiple, code := impl.ScaleProgram(p, 5)
		x, y, _, a := impl.MinimumOf(p)
		z, v, _, b := impl.MinimumOf(multiple)
		if code != impl.ErrNone {
			continue
		}
		if !slices.Equal(x, z) || len(y) != len(v) || a != b {
			t.Errorf("MinimumOf(%v) = %v, %d, but of 5 times it %v, %d", p, x, a, z, b)
		}
		minima++
	}
	if min(sums, multiples, minima) < 100 {
		t.Errorf("only %d sums, %d multiples, and %d minima", sums, multiples, minima)
	}
}

// exactAlong returns t and the value there, or nil where the sum of all u(i) D(i)(k) u(k) is not greater
// than 0. It takes the three values at t of -1, 0 and 1, through which there is one parabola.
func exactAlong(p program, x, u []int64) (*big.Rat, *big.Rat) {
	at := func(t int64) *big.Rat {
		list := []*big.Rat{}
		for i := range x {
			list = append(list, big.NewRat(x[i]+t*u[i], 1))
		}
		return exactValue(p, list)
	}
	before, here, behind := at(-1), at(0), at(1)
	half := big.NewRat(1, 2)
	slope := new(big.Rat).Sub(behind, before)
	slope.Mul(slope, half)
	bend := new(big.Rat).Add(behind, before)
	bend.Mul(bend, half).Sub(bend, here)
	if bend.Sign() <= 0 {
		return nil, nil
	}
	t := new(big.Rat).Quo(slope, bend)
	t.Mul(t, big.NewRat(-1, 2))
	value := new(big.Rat).Mul(t, new(big.Rat).Mul(slope, half))
	return t, value.Add(value, here)
}

func TestLeastAlong(t *testing.T) {
	for _, c := range []struct {
		program, x, u, at, value string
		code                     int64
	}{
		{"2,0;0,2/-2,-6/-1,-1/-2", "0,0", "1,1", "2", "-8", impl.ErrNone},
		{"2/-2", "0", "1", "1", "-1", impl.ErrNone},
		{"2/-2", "1", "1", "0", "-1", impl.ErrNone},
		// t is less than 0, or the numbers are no place.
		{"2/-2", "3", "1", "-2", "-1", impl.ErrNone},
		{"2/-2", "0", "-1", "-1", "-1", impl.ErrNone},
		{"2/2", "5", "3", "-2", "-1", impl.ErrNone},
		{"2/-2", "-5", "7", "6/7", "-1", impl.ErrNone},
		{"3/-1", "0", "1", "1/3", "-1/6", impl.ErrNone},
		{"1/0", "5", "1", "-5", "0", impl.ErrNone},
		{"2/-2/1/100", "0", "1", "1", "-1", impl.ErrNone},
		{"2,0;0,2/-2,-6", "0,0", "1,0", "1", "-1", impl.ErrNone},
		{"2,0;0,2/-2,-6", "0,0", "0,1", "3", "-9", impl.ErrNone},
		{"2,0;0,2/-2,-6", "1,1", "2,-3", "-6/13", "-114/13", impl.ErrNone},
		{"1,2;2,3/4,-5", "1,-1", "1,1", "3/8", "135/16", impl.ErrNone},
		// The program is not convex, but bends upwards along u.
		{"1,0;0,-1/1,1", "0,0", "1,0", "-1", "-1/2", impl.ErrNone},
		{"-1,0;0,2/1,1", "7,0", "0,1", "-1/2", "-71/4", impl.ErrNone},
		{"0,1;1,0/0,0", "1,0", "1,1", "-1/2", "-1/4", impl.ErrNone},
		{"1,0;0,-1/0,0", "1,1", "2,1", "-1/3", "-1/6", impl.ErrNone},
		// It does not bend upwards: a sum of 0, as u is 0, D is 0, or just along u, and one less than 0.
		{"2/-2", "0", "0", "", "", impl.ErrState},
		{"2,0;0,2/-2,-6", "1,2", "0,0", "", "", impl.ErrState},
		{"0,0;0,0/1,2/1,1/3", "0,0", "1,1", "", "", impl.ErrState},
		{"0/0", "0", "1", "", "", impl.ErrState},
		{"1,-1;-1,1/0,0", "1,2", "1,1", "", "", impl.ErrState},
		{"1,-1;-1,1/3,4", "1,2", "-7,-7", "", "", impl.ErrState},
		{"0,1;1,0/0,0", "1,2", "1,0", "", "", impl.ErrState},
		{"0,1;1,0/0,0", "1,2", "0,5", "", "", impl.ErrState},
		{"1,0;0,-1/0,0", "1,2", "1,1", "", "", impl.ErrState},
		{"-1/1", "0", "1", "", "", impl.ErrState},
		{"0,1;1,0/0,0", "1,2", "1,-1", "", "", impl.ErrState},
		{"1,0;0,-1/0,0", "1,2", "1,2", "", "", impl.ErrState},
		{"-20,-20;-20,-20/100,100", "100,100", "100,100", "", "", impl.ErrState},
		// Numbers at 100 and beyond it, also where the sum is 0.
		{"20/100", "100", "100", "-21/20", "-250", impl.ErrNone},
		{"20/100", "-100", "-100", "-19/20", "-250", impl.ErrNone},
		{"20,20;20,20/100,100", "100,100", "100,100", "-41/40", "-250", impl.ErrNone},
		{"1/1", "101", "1", "", "", impl.ErrRange},
		{"1/1", "-101", "1", "", "", impl.ErrRange},
		{"1/1", "1", "101", "", "", impl.ErrRange},
		{"1/1", "1", "-101", "", "", impl.ErrRange},
		{"0/1", "101", "0", "", "", impl.ErrRange},
		{"0/1", "0", "-101", "", "", impl.ErrRange},
		{"1,0;0,1/1,1", "1,101", "1,1", "", "", impl.ErrRange},
		{"1,0;0,1/1,1", "1,1", "1,-101", "", "", impl.ErrRange},
		{"1,0;0,1/1,1", "101,1", "0,0", "", "", impl.ErrRange},
		{"1/1", "-9223372036854775808", "1", "", "", impl.ErrRange},
		{"1/1", "1", "-9223372036854775808", "", "", impl.ErrRange},
		{"1/1", "9223372036854775807", "1", "", "", impl.ErrRange},
		{"1/1", "1", "9223372036854775807", "", "", impl.ErrRange},
		// Too few numbers, or too many, as they are those of A and C together.
		{"1,0;0,1/1,1", "1", "1,1", "", "", impl.ErrRange},
		{"1,0;0,1/1,1", "1,1", "1", "", "", impl.ErrRange},
		{"1,0;0,1/1,1", "1,1,0", "1,1", "", "", impl.ErrRange},
		{"1,0;0,1/1,1", "1,1", "1,1,0", "", "", impl.ErrRange},
		{"1,0;0,1/1,1", "1,1,0", "1", "", "", impl.ErrRange},
		{"1/1/1/1", "1,0", "1,0", "", "", impl.ErrRange},
		{"0/1", "1,1", "1,1", "", "", impl.ErrRange},
		// The value is beyond the limits, but t is not.
		{"20,19;19,17/100,-99", "100,-99", "97,89", "", "", impl.ErrLimit},
	} {
		p, x, u := programFrom(c.program), rowsOf(c.x)[0], rowsOf(c.u)[0]
		if c.code != impl.ErrNone {
			checkRefused(t, c.program+" from "+c.x+" along "+c.u, callAlong(p, x, u), c.code)
			continue
		}
		at, value, code := impl.LeastAlong(p, x, u)
		if textsOf(t, []frac{at, value}) != c.at+" "+c.value || code != impl.ErrNone {
			t.Errorf("LeastAlong(%s, %s, %s) = %v, %v, %d, want %s, %s", c.program, c.x, c.u, at, value, code, c.at, c.value)
		}
	}
	for _, p := range []program{programFrom("1/1"), evenProgram(5, 0, 1, 1, 1, 1)} {
		for _, list := range [][]int64{nil, {}, make([]int64, 6), make([]int64, 300)} {
			whole := make([]int64, len(p.C))
			checkRefused(t, "no numbers, or too many", slices.Concat(callAlong(p, list, whole), callAlong(p, whole, list), callAlong(p, list, list)), impl.ErrRange)
		}
	}
}

// TestLeastAlongIsLeast compares with the parabola, and with values at other t.
func TestLeastAlongIsLeast(t *testing.T) {
	source := rand.New(rand.NewSource(12))
	some := func(n int, limit int64) []int64 {
		list := []int64{}
		for range n {
			list = append(list, source.Int63n(2*limit+1)-limit)
		}
		return list
	}
	within, beyond, flat, negative := [6]int{}, [6]int{}, 0, 0
	for i, p := range append(somePrograms(1200), greatPrograms(200)...) {
		n := len(p.C)
		limit := []int64{2, 100, 10}[i%3]
		x, u := some(n, limit), some(n, limit)
		wantAt, want := exactAlong(p, x, u)
		if wantAt == nil {
			flat++
			checkRefused(t, "a ray along which no value is the least", callAlong(p, x, u), impl.ErrState)
			continue
		}
		if isBeyond(wantAt, want) {
			beyond[n]++
			checkRefused(t, "a value beyond the limits", callAlong(p, x, u), impl.ErrLimit)
			continue
		}
		within[n]++
		at, value, code := impl.LeastAlong(p, x, u)
		if !sameFracs([]frac{at, value}, []*big.Rat{wantAt, want}) || code != impl.ErrNone {
			t.Errorf("LeastAlong(%v, %v, %v) = %v, %v, %d, want %v, %v", p, x, u, at, value, code, wantAt, want)
		}
		if at.Num < 0 {
			negative++
		}
		for _, off := range []*big.Rat{new(big.Rat), big.NewRat(1, 1000), big.NewRat(-1, 1000), big.NewRat(5, 1), big.NewRat(-5, 1)} {
			point := []*big.Rat{}
			for k := range x {
				step := new(big.Rat).Mul(big.NewRat(u[k], 1), new(big.Rat).Add(wantAt, off))
				point = append(point, step.Add(step, big.NewRat(x[k], 1)))
			}
			if sign := exactValue(p, point).Cmp(ratOf(value)); sign < 0 || (sign == 0) != (off.Sign() == 0) {
				t.Errorf("LeastAlong(%v, %v, %v) = %v, %v, but %v behind it the value is %v", p, x, u, at, value, off, exactValue(p, point))
			}
		}
	}
	if min(slices.Min(within[1:]), slices.Min(beyond[3:]), flat, negative) < 15 {
		t.Errorf("only %v within the limits, %v beyond them, %d flat ones, and %d with t less than 0", within, beyond, flat, negative)
	}
}

// TestProgramsThatAreNone gives other arguments that are wrong too: ErrInvalid comes first.
func TestProgramsThatAreNone(t *testing.T) {
	good := programFrom("1/1")
	for name, p := range invalidPrograms() {
		checkRefused(t, name, callProgram(p), impl.ErrInvalid)
		for _, x := range [][]frac{nil, wholes(0), wholes(1, 1), wholes(0, 0, 0), {{Num: 1, Den: 10001}}, {{Num: impl.MaxFrac, Den: 1}, {Num: 1, Den: impl.MaxFrac}}, {{}}} {
			checkRefused(t, name, callAtPoint(p, x), impl.ErrInvalid)
			checkRefused(t, name, slices.Concat(callStationary(p, x, nil), callStationary(p, x, wholes(0)), callStationary(p, nil, x), callStationary(p, wholes(0), x)), impl.ErrInvalid)
		}
		for _, other := range []program{p, good, evenProgram(2, 3, 20, 100, 20, 100), {}} {
			checkRefused(t, name, append(callSum(p, other), callSum(other, p)...), impl.ErrInvalid)
		}
		for _, k := range []int64{0, 1, 2, 20, 21, -1, leastInt, greatestInt} {
			checkRefused(t, name, callMultiple(p, k), impl.ErrInvalid)
		}
		for _, list := range [][]int64{nil, {0}, {1}, {1, 1}, {101}, {1, 1, 1}, {leastInt}} {
			checkRefused(t, name, slices.Concat(callAlong(p, list, list), callAlong(p, []int64{1}, list), callAlong(p, list, []int64{1})), impl.ErrInvalid)
		}
	}
}

// TestThingsThatAreNoFractions come first, also where there are too many numbers, too few, or too wide ones.
func TestThingsThatAreNoFractions(t *testing.T) {
	p := programFrom("2,0;0,2/-2,-6/-1,-1/-2")
	wide := []frac{{Num: impl.MaxFrac, Den: 1}, {Num: 1, Den: impl.MaxFrac}}
	for _, bad := range invalidFracs() {
		for _, x := range [][]frac{{bad, {Den: 1}}, {{Den: 1}, bad}, {bad, bad}, {bad}, {{Den: 1}, {Den: 1}, bad}, {bad, wide[0], wide[1]}, slices.Repeat([]frac{bad}, 70)} {
			checkRefused(t, "no fractions", callAtPoint(p, x), impl.ErrInvalid)
			for _, y := range [][]frac{nil, wholes(2), wholes(2, 2), wide, {bad}} {
				checkRefused(t, "no fractions x", callStationary(p, x, y), impl.ErrInvalid)
			}
			for _, other := range [][]frac{nil, wholes(0, 2), wholes(0), wide, slices.Concat(wide, wide)} {
				checkRefused(t, "no fractions y", callStationary(p, other, x), impl.ErrInvalid)
			}
		}
		checkRefused(t, "no fraction y", callStationary(p, wholes(0, 2), []frac{bad}), impl.ErrInvalid)
		checkRefused(t, "no fraction y", callStationary(programFrom("2/-2"), wholes(1), []frac{bad}), impl.ErrInvalid)
	}
}

// TestTooManyFractions, or too few: ErrRange, also where they would be too wide.
func TestTooManyFractions(t *testing.T) {
	wide := []frac{{Num: impl.MaxFrac, Den: 1}, {Num: 1, Den: impl.MaxFrac}}
	lists := [][]frac{nil, {}}
	for n := 1; n <= 6; n++ {
		lists = append(lists, wholes(make([]int64, n)...))
	}
	lists = append(lists, wide, slices.Concat(wide, wide), slices.Repeat(wide, 3), slices.Repeat(wide, 100))
	for _, shape := range programShapes() {
		n, m := shape[0], shape[1]
		p := evenProgram(n, m, 0, 0, 0, 0)
		for _, x := range lists {
			if len(x) != n {
				checkRefused(t, "no n fractions", callAtPoint(p, x), impl.ErrRange)
			}
			for _, y := range lists {
				if len(x) == n && len(y) == m {
					continue
				}
				// Together they may be as many as the problem has.
				checkRefused(t, "no n and m fractions", callStationary(p, x, y), impl.ErrRange)
			}
		}
		if yes, code := impl.IsStationary(p, wholes(make([]int64, n)...), wholes(make([]int64, m)...)); !yes || code != impl.ErrNone {
			t.Errorf("IsStationary(%v) of zeros = %v, %d", p, yes, code)
		}
	}
}

// guardedProgram returns a copy of a program with spare capacity, and a function that reports whether
// nothing of it has been changed.
func guardedProgram(p program) (program, func() bool) {
	first, sameFirst := guardedProblem(problem{M: p.D, Q: p.C})
	second, sameSecond := guardedProblem(problem{M: p.A, Q: p.B})
	return program{D: first.M, C: first.Q, A: second.M, B: second.Q}, func() bool { return sameFirst() && sameSecond() }
}

// callPrograms calls all functions of chapter 9, with the same program twice too.
func callPrograms(p, q program, x, y []frac, from, along []int64) []reply {
	return slices.Concat(callProgram(p), callProgram(q), callAtPoint(p, x), callAtPoint(q, x), callStationary(p, x, y), callStationary(q, x, y),
		callSum(p, q), callSum(q, p), callSum(p, p), callMultiple(p, 2), callMultiple(q, 1), callAlong(p, from, along), callAlong(q, from, along))
}

// TestProgramCallsLeaveNothing: no argument is changed, and each call tells the same once more, also behind
// calls that end with errors.
func TestProgramCallsLeaveNothing(t *testing.T) {
	for _, texts := range [][2]string{
		{"2,0;0,2/-2,-6/-1,-1/-2", "0,0;0,0/1,2/1,1/3"},
		{"3,1;1,2/-5,4/1,0/1", "1,1;1,1/-3,-3/-1,-1;1,2/-4,1"},
		{"-1,0;0,1/1,1", "0,0;0,0/-1,-1/1,1/2"},
		{"0,0;0,0/7,8/1,2/3", "0,0;0,0/4,5/-1,3;1,1/1,2"},
	} {
		p, sameP := guardedProgram(programFrom(texts[0]))
		q, sameQ := guardedProgram(programFrom(texts[1]))
		x, sameX := guarded([]frac{{Num: 1, Den: 2}, {Num: 2, Den: 1}}, frac{Num: 44, Den: 4})
		y, sameY := guarded(wholes(2), frac{Num: 55, Den: 5})
		from, sameFrom := guarded([]int64{3, -1}, 66)
		along, sameAlong := guarded([]int64{-2, 1}, 77)
		first := callPrograms(p, q, x, y, from, along)
		callPrograms(program{}, program{}, nil, nil, nil, nil)
		callPrograms(programFrom("20/100/1/1"), p, y, x, along, from)
		if again := callPrograms(p, q, x, y, from, along); !reflect.DeepEqual(first, again) {
			t.Errorf("results = %v, then %v", first, again)
		}
		if !sameP() || !sameQ() || !sameX() || !sameY() || !sameFrom() || !sameAlong() {
			t.Errorf("an argument has been changed")
		}
	}
}

// TestProgramResultsAreNew writes into results, and looks at their neighbours, at the arguments and at the
// next results.
func TestProgramResultsAreNew(t *testing.T) {
	const text, other = "2,0;0,2/-2,-6/-1,-1/-2", "0,0;0,0/1,2/1,1;1,0/3,1"
	p, q := programFrom(text), programFrom(other)
	x, y, from, along := wholes(0, 2), wholes(2), []int64{0, 0}, []int64{1, 1}
	first := callPrograms(p, q, x, y, from, along)
	lists, fracs := rows{}, [][]frac{}
	for range 2 {
		for _, one := range []program{p, q} {
			result, _ := impl.ProgramProblem(one)
			lists = append(append(lists, result.M...), result.Q)
			slopes, _ := impl.SlopesAt(one, x)
			least, multipliers, _, _ := impl.MinimumOf(one)
			fracs = append(fracs, slopes, least, multipliers)
		}
		dual, _ := impl.DualProgram(q)
		sum, _ := impl.AddPrograms(p, q)
		twice, _ := impl.AddPrograms(p, p)
		multiple, _ := impl.ScaleProgram(p, 2)
		same, _ := impl.ScaleProgram(q, 1)
		for _, result := range []program{dual, sum, twice, multiple, same} {
			lists = slices.Concat(lists, result.D, result.A, rows{result.C, result.B})
			// The lists of rows are new too.
			result.D[0], result.A[0] = nil, nil
		}
	}
	spoilRows(t, "problems and programs", lists)
	spoilFracs(t, "slopes, minima and multipliers", fracs)
	if !samePrograms(p, programFrom(text)) || !samePrograms(q, programFrom(other)) || !slices.Equal(x, wholes(0, 2)) || !slices.Equal(y, wholes(2)) {
		t.Errorf("the arguments are now %v, %v, %v, %v", p, q, x, y)
	}
	if again := callPrograms(p, q, x, y, from, along); !reflect.DeepEqual(first, again) {
		t.Errorf("results = %v, then %v", first, again)
	}
}
