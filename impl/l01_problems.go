package impl

import (
	"cmp"
	"iter"
	"slices"
	"strconv"
	"strings"
)

const (
	ErrNone = iota
	ErrInvalid
	ErrRange
	ErrLimit
	ErrNotFound
	ErrState
	ErrSyntax
)
const (
	MaxSize  = 5
	MaxEntry = 20
	MaxRight = 100
	MaxFrac  = 1000000000
)

const (
	maxWide  = 1000000000000
	maxScale = 100
)

type Frac struct {
	Num int64
	Den int64
}

type Problem struct {
	M [][]int64
	Q []int64
}

// IsFrac reports whether a is a fraction.
func IsFrac(a Frac) bool {
	return isWithin(a.Num, MaxFrac) && a.Den >= 1 && a.Den <= MaxFrac && a == lowestTerms(a.Num, a.Den)
}

// FracOf returns the fraction of num by den, den other than 0, both of absolute values of at most
// 1000000000000, and ErrNone.
func FracOf(num int64, den int64) (Frac, int64) {
	if den == 0 || !isWithin(num, maxWide) || !isWithin(den, maxWide) {
		return Frac{}, ErrRange
	}
	return limitedFrac(num, den)
}

// AddFracs returns a and k times b together, k being 1 or -1, and ErrNone.
func AddFracs(a Frac, b Frac, k int64) (Frac, int64) {
	if !IsFrac(a) || !IsFrac(b) {
		return Frac{}, ErrInvalid
	}
	if k != 1 && k != -1 {
		return Frac{}, ErrRange
	}
	return limitedFrac(a.Num*b.Den+k*b.Num*a.Den, a.Den*b.Den)
}

// MultiplyFracs returns the product, and ErrNone.
func MultiplyFracs(a Frac, b Frac) (Frac, int64) {
	if !IsFrac(a) || !IsFrac(b) {
		return Frac{}, ErrInvalid
	}
	return limitedFrac(a.Num*b.Num, a.Den*b.Den)
}

// CompareFracs returns -1, 0 or 1 if a is less than, equal to, or greater than b, and ErrNone.
func CompareFracs(a Frac, b Frac) (int64, int64) {
	if !IsFrac(a) || !IsFrac(b) {
		return 0, ErrInvalid
	}
	return int64(cmp.Compare(a.Num*b.Den, b.Num*a.Den)), ErrNone
}

// IsProblem reports whether p is a problem.
func IsProblem(p Problem) bool {
	return isSquareWithin(p.M, MaxEntry) && len(p.Q) == len(p.M) && areWithin(p.Q, MaxRight)
}

// ColumnsOf returns the rows of the columns of a set s, and ErrNone.
func ColumnsOf(p Problem, s int64) ([][]int64, int64) {
	if code := checkSet(p, s); code != ErrNone {
		return nil, code
	}
	rows := unitRows(len(p.M))
	for i := range membersOf(s) {
		for k := range rows {
			rows[k][i] = -p.M[k][i]
		}
	}
	return rows, ErrNone
}

// DeterminantOf returns the determinant of the columns of a set s, and ErrNone.
func DeterminantOf(p Problem, s int64) (int64, int64) {
	rows, code := ColumnsOf(p, s)
	if code != ErrNone {
		return 0, code
	}
	return determinant(rows), ErrNone
}

// PointOf returns the point of a set s, and ErrNone. Errors: ErrState if it is not basic; ErrLimit
// as told.
func PointOf(p Problem, s int64) ([]Frac, int64) {
	rows, code := ColumnsOf(p, s)
	if code != ErrNone {
		return nil, code
	}
	den := determinant(rows)
	if den == 0 {
		return nil, ErrState
	}
	nums := make([]int64, len(rows))
	for i := range nums {
		nums[i] = determinant(withColumn(rows, i, p.Q))
	}
	return limitedFracs(nums, den)
}

// RemainderOf returns the remainder of n fractions z, and ErrNone. Errors: ErrLimit also if their
// least common denominator is greater than MaxFrac, or a Num has an absolute value greater than
// 1000000000000 if all are written with it.
func RemainderOf(p Problem, z []Frac) ([]Frac, int64) {
	if code := checkFracs(p, z); code != ErrNone {
		return nil, code
	}
	nums, den, ok := commonNums(z)
	if !ok {
		return nil, ErrLimit
	}
	return limitedFracs(remainderNums(p, z, nums, den), den)
}

// IsSolution reports whether n fractions z are a solution, and returns ErrNone. Errors: ErrLimit if
// their least common denominator is greater than MaxFrac, or a Num has an absolute value greater
// than 1000000000000 if all are written with it.
func IsSolution(p Problem, z []Frac) (bool, int64) {
	if code := checkFracs(p, z); code != ErrNone {
		return false, code
	}
	nums, den, ok := commonNums(z)
	if !ok {
		return false, ErrLimit
	}
	// The remainder stays in whole numbers here: as fractions it might be beyond their limits.
	for i, w := range remainderNums(p, z, nums, den) {
		if z[i].Num < 0 || w < 0 || z[i].Num != 0 && w != 0 {
			return false, ErrNone
		}
	}
	return true, ErrNone
}

// RenumberProblem returns p renumbered by a list, and ErrNone.
func RenumberProblem(p Problem, list []int64) (Problem, int64) {
	if !IsProblem(p) {
		return Problem{}, ErrInvalid
	}
	if !isNumbering(list, len(p.M)) {
		return Problem{}, ErrRange
	}
	result := copyProblem(p)
	for i, to := range list {
		result.Q[to] = p.Q[i]
		for k, across := range list {
			result.M[to][across] = p.M[i][k]
		}
	}
	return result, ErrNone
}

// ScaleRow returns p with the row i of M, and Q(i), times k, in 1..100, and ErrNone.
func ScaleRow(p Problem, i int64, k int64) (Problem, int64) {
	if !IsProblem(p) {
		return Problem{}, ErrInvalid
	}
	if i < 0 || i >= int64(len(p.M)) || k < 1 || k > maxScale {
		return Problem{}, ErrRange
	}
	result := copyProblem(p)
	result.Q[i] *= k
	for c := range result.M[i] {
		result.M[i][c] *= k
	}
	if !IsProblem(result) {
		return Problem{}, ErrLimit
	}
	return result, ErrNone
}

// ProblemText returns the text of p, and ErrNone.
func ProblemText(p Problem) (string, int64) {
	if !IsProblem(p) {
		return "", ErrInvalid
	}
	return joinRows(p.M) + "/" + joinNumbers(p.Q), ErrNone
}

// ParseProblem returns the problem with a text, and ErrNone. Errors: ErrSyntax if there is none.
// (No other errors are returned.)
func ParseProblem(text string) (Problem, int64) {
	left, right, _ := strings.Cut(text, "/")
	p := Problem{Q: splitNumbers(right)}
	for row := range strings.SplitSeq(left, ";") {
		p.M = append(p.M, splitNumbers(row))
	}
	// A problem has one text alone, so comparing with it refuses all other spellings at once.
	if again, code := ProblemText(p); code != ErrNone || again != text {
		return Problem{}, ErrSyntax
	}
	return p, ErrNone
}

// FracText returns the text of a fraction, and ErrNone.
func FracText(a Frac) (string, int64) {
	if !IsFrac(a) {
		return "", ErrInvalid
	}
	return fracText(a), ErrNone
}

// isWithin compares with both ends, as the least int64 has no absolute value.
func isWithin(x int64, limit int64) bool {
	return x >= -limit && x <= limit
}

func areWithin(list []int64, limit int64) bool {
	for _, x := range list {
		if !isWithin(x, limit) {
			return false
		}
	}
	return true
}

// isSquareWithin reports whether rows are n rows of n numbers within a limit, n in 1..MaxSize.
func isSquareWithin(rows [][]int64, limit int64) bool {
	n := len(rows)
	if n < 1 || n > MaxSize {
		return false
	}
	for _, row := range rows {
		if len(row) != n || !areWithin(row, limit) {
			return false
		}
	}
	return true
}

func greatestDivisor(a int64, b int64) int64 {
	for b != 0 {
		a, b = b, a%b
	}
	return max(a, -a)
}

// lowestTerms takes a den other than 0, and neither number the least int64.
func lowestTerms(num int64, den int64) Frac {
	g := greatestDivisor(num, den)
	if den < 0 {
		g = -g
	}
	return Frac{Num: num / g, Den: den / g}
}

// limitedFrac takes numbers beyond the arguments of FracOf too: sums of products of fractions.
func limitedFrac(num int64, den int64) (Frac, int64) {
	a := lowestTerms(num, den)
	if !IsFrac(a) {
		return Frac{}, ErrLimit
	}
	return a, ErrNone
}

func limitedFracs(nums []int64, den int64) ([]Frac, int64) {
	list := make([]Frac, len(nums))
	for i, num := range nums {
		a, code := limitedFrac(num, den)
		if code != ErrNone {
			return nil, code
		}
		list[i] = a
	}
	return list, ErrNone
}

// membersOf lets one range over the indices that a set has, ascending.
func membersOf(s int64) iter.Seq[int] {
	return func(yield func(int) bool) {
		for i := 0; s>>i > 0; i++ {
			if s>>i&1 == 1 && !yield(i) {
				return
			}
		}
	}
}

func checkSet(p Problem, s int64) int64 {
	if !IsProblem(p) {
		return ErrInvalid
	}
	if !isSet(s, len(p.M)) {
		return ErrRange
	}
	return ErrNone
}

func isSet(s int64, n int) bool {
	return s >= 0 && s < 1<<n
}

func checkFracs(p Problem, z []Frac) int64 {
	if !IsProblem(p) || !areFracs(z) {
		return ErrInvalid
	}
	if len(z) != len(p.M) {
		return ErrRange
	}
	return ErrNone
}

func areFracs(list []Frac) bool {
	for _, a := range list {
		if !IsFrac(a) {
			return false
		}
	}
	return true
}

func unitRows(n int) [][]int64 {
	rows := make([][]int64, n)
	for i := range rows {
		rows[i] = make([]int64, n)
		rows[i][i] = 1
	}
	return rows
}

func copyRows(rows [][]int64) [][]int64 {
	result := make([][]int64, len(rows))
	for i, row := range rows {
		result[i] = slices.Clone(row)
	}
	return result
}

func copyProblem(p Problem) Problem {
	return Problem{M: copyRows(p.M), Q: slices.Clone(p.Q)}
}

func withColumn(rows [][]int64, i int, column []int64) [][]int64 {
	result := copyRows(rows)
	for k := range result {
		result[k][i] = column[k]
	}
	return result
}

func determinant(rows [][]int64) int64 {
	last, sign := reduce(copyRows(rows))
	return sign * last
}

// reduce eliminates without fractions (Bareiss), below and above, in n rows of at least n numbers:
// all numbers on the way are minors of the rows, so that each division leaves no rest, and their
// products stay far below the ends of int64. It returns the last number of the diagonal, which is
// the determinant of the first n columns but for the sign, and this sign. If the number is not 0,
// each column behind is left as what solves the equations with it on the right, times the number.
func reduce(m [][]int64) (int64, int64) {
	last, sign := int64(1), int64(1)
	for c := range m {
		r := c + slices.IndexFunc(m[c:], func(row []int64) bool { return row[c] != 0 })
		if r < c {
			return 0, sign
		}
		if r > c {
			m[r], m[c] = m[c], m[r]
			sign = -sign
		}
		eliminate(m, c, c, last)
		last = m[c][c]
	}
	return last, sign
}

// eliminate takes the column c out of all rows but the row r, in numbers that are all multiplied by
// last; afterwards they are multiplied by the number at r, c. The row r itself stays as it is.
func eliminate(m [][]int64, r int, c int, last int64) {
	for i, row := range m {
		if i == r {
			continue
		}
		// Kept here, as it becomes 0 on the way.
		factor := row[c]
		for k := range row {
			row[k] = (row[k]*m[r][c] - factor*m[r][k]) / last
		}
	}
}

// commonNums returns the Num of each different fraction when all are written with their least
// common denominator, this denominator, and whether both are within the limits.
func commonNums(z []Frac) (map[Frac]int64, int64, bool) {
	den := int64(1)
	for _, a := range z {
		den = den / greatestDivisor(den, a.Den) * a.Den
		// Asked at each fraction, so that the next product cannot overflow.
		if den > MaxFrac {
			return nil, 0, false
		}
	}
	nums := map[Frac]int64{}
	for _, a := range z {
		nums[a] = a.Num * (den / a.Den)
		if !isWithin(nums[a], maxWide) {
			return nil, 0, false
		}
	}
	return nums, den, true
}

func remainderNums(p Problem, z []Frac, nums map[Frac]int64, den int64) []int64 {
	sums := make([]int64, len(z))
	for i, row := range p.M {
		sums[i] = p.Q[i] * den
		for k, a := range z {
			sums[i] += row[k] * nums[a]
		}
	}
	return sums
}

// isNumbering reports whether a list has each of the numbers 0 to n - 1 once.
func isNumbering(list []int64, n int) bool {
	if len(list) != n {
		return false
	}
	for i := range n {
		if !slices.Contains(list, int64(i)) {
			return false
		}
	}
	return true
}

func decimal(x int64) string {
	return strconv.FormatInt(x, 10)
}

func fracText(a Frac) string {
	if a.Den == 1 {
		return decimal(a.Num)
	}
	return decimal(a.Num) + "/" + decimal(a.Den)
}

func joinRows(rows [][]int64) string {
	return joinTexts(rows, ";", joinNumbers)
}

func joinNumbers(list []int64) string {
	return joinTexts(list, ",", decimal)
}

func joinTexts[T any](list []T, between string, textOf func(T) string) string {
	texts := make([]string, len(list))
	for i, x := range list {
		texts[i] = textOf(x)
	}
	return strings.Join(texts, between)
}

// splitNumbers leaves it to ParseProblem to refuse words that are no numbers.
func splitNumbers(text string) []int64 {
	var list []int64
	for word := range strings.SplitSeq(text, ",") {
		x, _ := strconv.ParseInt(word, 10, 64)
		list = append(list, x)
	}
	return list
}
