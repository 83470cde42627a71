package tests

import (
	"math/big"
	"math/bits"
	"math/rand"
	"reflect"
	"slices"
	"strings"
	"testing"

	"loop.example/g01343/impl"
)

// exactWay follows a problem apart from the program, as far as there is a way; it returns why there is none
// further on, or nothing.
func exactWay(p problem, d []int64) ([]int64, []*big.Rat, string) {
	facts := exactFactsOf(p)
	if len(facts.feasible) != 1 {
		return nil, nil, map[bool]string{true: "not covered", false: "covered twice"}[len(facts.feasible) == 0]
	}
	from, along := exactRunnerOf(p), exactRunnerOf(problem{M: p.M, Q: d})
	s := facts.feasible[0]
	if len(zerosIn(from.pointOf(s))) > 0 {
		return nil, nil, "not inner"
	}
	sets, breaks, before := []int64{s}, []*big.Rat{}, new(big.Rat)
	for {
		time := exactBreak(from.pointOf(s), along.pointOf(s), before)
		if time == nil {
			return sets, breaks, ""
		}
		zeros := zerosIn(exactlyMoved(from.pointOf(s), along.pointOf(s), time))
		if len(zeros) > 1 {
			return sets, breaks, "two numbers"
		}
		s ^= 1 << zeros[0]
		if from.pointOf(s) == nil {
			return sets, breaks, "not basic"
		}
		if along.pointOf(s)[zeros[0]].Sign() <= 0 {
			return sets, breaks, "not rising"
		}
		sets, breaks, before = append(sets, s), append(breaks, time), time
	}
}

// exactBreak returns the least t behind another one at which a number of a + t b that falls becomes 0, or nil.
func exactBreak(a, b []*big.Rat, before *big.Rat) *big.Rat {
	var least *big.Rat
	for i, x := range b {
		if x.Sign() >= 0 {
			continue
		}
		time := new(big.Rat).Quo(a[i], x)
		time.Neg(time)
		if time.Cmp(before) > 0 && (least == nil || time.Cmp(least) < 0) {
			least = time
		}
	}
	return least
}

// exactlyMoved returns a + t b.
func exactlyMoved(a, b []*big.Rat, t *big.Rat) []*big.Rat {
	list := []*big.Rat{}
	for i, x := range b {
		moved := new(big.Rat).Mul(t, x)
		list = append(list, moved.Add(moved, a[i]))
	}
	return list
}

// zerosIn returns the places of the numbers that are 0.
func zerosIn(point []*big.Rat) []int {
	list := []int{}
	for i, x := range point {
		if x.Sign() == 0 {
			list = append(list, i)
		}
	}
	return list
}

// exactPointAt solves the equations of a set for Q + t d; it returns nil if the set is not basic.
func exactPointAt(p problem, s int64, d []int64, t *big.Rat) []*big.Rat {
	equations := exactRows(p, s)
	for k, row := range equations {
		moved := new(big.Rat).Mul(t, big.NewRat(d[k], 1))
		row[len(d)] = moved.Add(moved, row[len(d)])
	}
	return exactSolution(equations)
}

// exactDegree returns the degree, and whether it is told.
func exactDegree(p problem) (int64, bool) {
	sum := int64(0)
	for _, s := range exactFactsOf(p).feasible {
		if len(zerosIn(exactPoint(p, s))) > 0 {
			return 0, false
		}
		sum += int64(bigMinor(p.M, s).Sign())
	}
	return sum, true
}

// boxOf returns the box of k.
func boxOf(n int, k int64) rows {
	list := rows{{}}
	for range n {
		longer := rows{}
		for _, vector := range list {
			for x := -k; x <= k; x++ {
				longer = append(longer, append(slices.Clone(vector), x))
			}
		}
		list = longer
	}
	return list
}

// exactInverses returns the rows of the inverse of the columns of each basic set, multiplied by a number
// greater than 0 that makes them whole.
func exactInverses(p problem) []rows {
	list := []rows{}
	for _, s := range allSets(len(p.M)) {
		columns := [][]*big.Rat{}
		for _, unit := range identity(p.Q...).M {
			columns = append(columns, exactPoint(problem{M: p.M, Q: unit}, s))
		}
		if columns[0] == nil {
			continue
		}
		inverse := rows{}
		for i := range columns {
			row := []*big.Rat{}
			for _, column := range columns {
				row = append(row, column[i])
			}
			inverse = append(inverse, wholeRow(row))
		}
		list = append(list, inverse)
	}
	return list
}

// wholeRow multiplies fractions by their least common denominator.
func wholeRow(row []*big.Rat) []int64 {
	den := commonDen(fracsFrom(row)).Int64()
	list := []int64{}
	for _, x := range row {
		list = append(list, x.Num().Int64()*(den/x.Denom().Int64()))
	}
	return list
}

// exactNumbers counts the vectors of the box of k by the cones that cover them.
func exactNumbers(p problem, k int64) []int64 {
	inverses := exactInverses(p)
	counts := []int64{}
	for _, q := range boxOf(len(p.M), k) {
		number := 0
		for _, inverse := range inverses {
			if !slices.ContainsFunc(inverse, func(row []int64) bool { return isNegative(row, q) }) {
				number++
			}
		}
		for len(counts) <= number {
			counts = append(counts, 0)
		}
		counts[number]++
	}
	return counts
}

// isNegative reports whether the sum of the products of the numbers of two lists is less than 0.
func isNegative(row, q []int64) bool {
	sum := int64(0)
	for i, x := range row {
		sum += x * q[i]
	}
	return sum < 0
}

// murtyWay returns a problem, and a direction, the way of which has all sets: Murty's example for parameters,
// with problems of Murty turned around.
func murtyWay(n int) (problem, []int64) {
	p, d := identity(make([]int64, n)...), []int64{}
	right := int64(64)
	for i := range n {
		right -= 1 << (n - i)
		p.Q[i] = right
		d = append(d, -1)
		for k := range i {
			p.M[i][k] = 2
		}
	}
	return p, d
}

// followed is a problem with a direction.
type followed struct {
	p problem
	d []int64
}

// someFollowed returns the same ones at each call, of all sizes: with small numbers and great ones, with
// diagonals that make ways longer, with directions like Q, with one number alone, and at the limits.
func someFollowed(count int) []followed {
	source := rand.New(rand.NewSource(31))
	list := []followed{}
	for i := range count {
		n := i%impl.MaxSize + 1
		entry, right := int64(3), int64(5)
		if i/5%3 == 0 {
			entry, right = impl.MaxEntry, impl.MaxRight
		}
		c := followed{p: squareOf(n, 0), d: make([]int64, n)}
		for r := range n {
			c.p.Q[r] = source.Int63n(2*right+1) - right
			c.d[r] = source.Int63n(2*right+1) - right
			for k := range n {
				c.p.M[r][k] = source.Int63n(2*entry+1) - entry
			}
			if i/15%3 > 0 {
				c.p.M[r][r] = source.Int63n(entry + 1)
			}
		}
		if i/45%4 == 0 {
			c.d = make([]int64, n)
		}
		if slices.Max(c.d) == 0 && slices.Min(c.d) == 0 {
			c.d[source.Intn(n)] = (2*source.Int63n(2) - 1) * (1 + source.Int63n(right))
		}
		list = append(list, c)
	}
	return list
}

// pFollowed returns problems with P matrices, each with some directions, without a number 0 on the right.
func pFollowed(t *testing.T) []followed {
	t.Helper()
	source := rand.New(rand.NewSource(32))
	list := []followed{}
	for i, p := range pProblems(t) {
		d := make([]int64, len(p.Q))
		for r := range d {
			d[r] = source.Int63n(41) - 20
			if i%2 == 0 {
				d[r] = -p.Q[r] - source.Int63n(5) + 2
			}
			d[r] = min(max(d[r], -100), 100)
		}
		if slices.Max(d) == 0 && slices.Min(d) == 0 {
			d[0] = 1
		}
		list = append(list, followed{p, d})
	}
	for n := 1; n <= impl.MaxSize; n++ {
		p, d := murtyWay(n)
		list = append(list, followed{p, d})
	}
	return list
}

// someTimes returns times at the limits, and at, between and near the breakpoints of a way.
func someTimes(t *testing.T, breaks []frac) []frac {
	t.Helper()
	list := fracsIn(t, "0 1 1/2 5/3 1/1000 7/1000 999/1000 1000/999 999 1000")
	before := frac{Num: 0, Den: 1}
	for _, time := range breaks {
		// The mediant of two fractions is between them.
		between := big.NewRat(before.Num+time.Num, before.Den+time.Den)
		near := []*big.Rat{ratOf(time), between, new(big.Rat).Add(ratOf(time), big.NewRat(1, 7)), new(big.Rat).Sub(ratOf(time), big.NewRat(1, 90))}
		for _, other := range fracsFrom(near) {
			if other.Num >= 0 && other.Num <= 1000 && other.Den <= 1000 {
				list = append(list, other)
			}
		}
		before = time
	}
	return list
}

// badTimes are no fractions, less than 0, or have too great numbers.
func badTimes(t *testing.T) []frac {
	t.Helper()
	return append(invalidFracs(), fracsIn(t, "1001 1/1001 1001/1000 1000/1001 -1 -1/1000 -1000 -1001 -1/1001 1000000000 -1000000000 1/1000000000 1000000000/999999999")...)
}

// badDirections are none for problems of a size.
func badDirections(n int) rows {
	zeros, ones := make([]int64, n), slices.Repeat([]int64{1}, n)
	list := rows{nil, {}, zeros, zeros[:n-1], ones[:n-1], append(slices.Clone(ones), 1), append(slices.Clone(ones), 0), append(slices.Clone(zeros), 0), append(slices.Clone(zeros), 1)}
	for _, x := range []int64{101, -101, 1 << 32, 1<<32 + 1, leastInt, leastInt + 1, greatestInt} {
		first, last, all := slices.Clone(ones), slices.Clone(zeros), slices.Repeat([]int64{x}, n)
		first[0], last[n-1] = x, x
		list = append(list, first, last, all)
	}
	return list
}

func callCovered(p problem, s int64) []reply {
	yes, code := impl.IsCovered(p, s)
	return []reply{{"IsCovered", []any{yes}, !yes, code}}
}

func callNumbers(p problem, k int64) []reply {
	counts, code := impl.CoverNumbers(p, k)
	return []reply{{"CoverNumbers", []any{counts}, len(counts) == 0, code}}
}

func callDegree(p problem) []reply {
	degree, code := impl.DegreeAt(p)
	return []reply{{"DegreeAt", []any{degree}, degree == 0, code}}
}

func callFollow(p problem, d []int64) []reply {
	sets, breaks, code := impl.FollowProblem(p, d)
	return []reply{{"FollowProblem", []any{sets, breaks}, len(sets) == 0 && len(breaks) == 0, code}}
}

func callSetAt(p problem, d []int64, time frac) []reply {
	s, code := impl.SetAt(p, d, time)
	return []reply{{"SetAt", []any{s}, s == 0, code}}
}

func callPointAt(p problem, s int64, d []int64, time frac) []reply {
	point, code := impl.PointAt(p, s, d, time)
	return []reply{{"PointAt", []any{point}, len(point) == 0, code}}
}

// callCones calls all functions of chapter 10.
func callCones(p problem, s, k int64, d []int64, time frac) []reply {
	list, code := impl.CoverList(p)
	return slices.Concat([]reply{{"CoverList", []any{list}, len(list) == 0, code}}, callCovered(p, s), callNumbers(p, k),
		callDegree(p), callFollow(p, d), callSetAt(p, d, time), callPointAt(p, s, d, time))
}

// wayText tells a way in words.
func wayText(t *testing.T, sets []int64, breaks []frac) string {
	t.Helper()
	text := runText(sets, 0)
	text = strings.TrimSuffix(text, " "+endNames[0])
	if len(breaks) > 0 {
		text += " at " + textsOf(t, breaks)
	}
	return text
}

func TestConeConstants(t *testing.T) {
	if impl.MaxSpan != 2 || impl.MaxTimes != 40 {
		t.Errorf("limits = %d, %d", impl.MaxSpan, impl.MaxTimes)
	}
}

func TestIsCovered(t *testing.T) {
	for _, c := range []struct {
		p problem
		// The sets the cones of which cover Q, those the cones of which do not, and those that are not basic.
		yes, no, stuck []int64
	}{
		// One number: the empty set and the whole one.
		{identity(1), []int64{0}, []int64{1}, nil},
		{identity(-1), []int64{1}, []int64{0}, nil},
		{identity(0), []int64{0, 1}, nil, nil},
		{mustParse(t, "-1/1"), []int64{0, 1}, nil, nil},
		{mustParse(t, "-20/-100"), nil, []int64{0, 1}, nil},
		{mustParse(t, "0/1"), []int64{0}, nil, []int64{1}},
		{mustParse(t, "0/0"), []int64{0}, nil, []int64{1}},
		{mustParse(t, "0/-1"), nil, []int64{0}, []int64{1}},
		{mustParse(t, "20/-100"), []int64{1}, []int64{0}, nil},
		// Two numbers: one less than 0, at each place, both, or none; also with numbers 0.
		{mustParse(t, "2,1;1,2/-5,-6"), []int64{3}, []int64{0, 1, 2}, nil},
		{mustParse(t, "2,1;1,2/0,0"), []int64{0, 1, 2, 3}, nil, nil},
		{mustParse(t, "2,1;1,2/0,-1"), []int64{2}, []int64{0, 1, 3}, nil},
		{mustParse(t, "2,1;1,2/-2,-1"), []int64{1, 3}, []int64{0, 2}, nil},
		{mustParse(t, "1,1;1,1/-1,-1"), []int64{1, 2}, []int64{0}, []int64{3}},
		{mustParse(t, "1,1;1,1/1,-1"), []int64{2}, []int64{0, 1}, []int64{3}},
		{mustParse(t, "0,1;1,0/-1,-1"), []int64{3}, []int64{0}, []int64{1, 2}},
		{mustParse(t, "1,-1;-1,1/-1,-1"), nil, []int64{0, 1, 2}, []int64{3}},
		// Five numbers: a number less than 0 is found at each place.
		{identity(1, 2, 3, 4, 5), []int64{0}, []int64{1, 2, 4, 8, 16, 31, 30, 15}, nil},
		{identity(1, 2, -3, 4, 5), []int64{4}, []int64{0, 1, 31, 5, 6, 12, 20}, nil},
		{identity(1, 0, -3, 0, 5), []int64{4, 6, 12, 14}, []int64{0, 2, 8, 10, 31}, nil},
		{identity(-1, -2, -3, -4, -5), []int64{31}, []int64{0, 30, 29, 27, 23, 15}, nil},
		{identity(0, 0, 0, 0, 0), allSets(5), nil, nil},
		{problem{M: squareOf(5, 0).M, Q: []int64{1, 1, 0, 1, 1}}, []int64{0}, nil, allSets(5)[1:]},
		{problem{M: squareOf(5, 0).M, Q: []int64{1, 1, -1, 1, 1}}, nil, []int64{0}, allSets(5)[1:]},
		{problem{M: squareOf(5, 1).M, Q: slices.Repeat([]int64{-1}, 5)}, []int64{1, 2, 4, 8, 16}, []int64{0}, []int64{3, 5, 7, 31}},
	} {
		for want, sets := range map[bool][]int64{true: c.yes, false: c.no} {
			for _, s := range sets {
				if yes, code := impl.IsCovered(c.p, s); yes != want || code != impl.ErrNone {
					t.Errorf("IsCovered(%v, %d) = %v, %d, want %v", c.p, s, yes, code, want)
				}
			}
		}
		for _, s := range c.stuck {
			checkRefused(t, "not basic", callCovered(c.p, s), impl.ErrState)
		}
	}
}

func TestCoverList(t *testing.T) {
	for _, c := range []struct{ text, want string }{
		// Empty ones.
		{"-1/-1", ""}, {"0/-1", ""}, {"0,0;0,0/1,-1", ""}, {"1,-1;-1,1/-1,-1", ""},
		// One set: the empty one, the whole one, and others.
		{"1/1", "0"}, {"0/0", "0"}, {"1/-1", "1"}, {"20/-100", "1"}, {"2,1;1,2/-5,-6", "3"}, {"2,1;1,2/5,6", "0"},
		{"1,2,2;0,1,2;0,0,1/-1,-1,-1", "4"}, {"1,0,0,0,0;2,1,0,0,0;2,2,1,0,0;2,2,2,1,0;2,2,2,2,1/1,2,3,-4,1", "8"}, {"1,0,0,0,0;2,1,0,0,0;2,2,1,0,0;2,2,2,1,0;2,2,2,2,1/1,2,3,-4,-9", "24"},
		// Several ones: with numbers that are 0, or with several solutions.
		{"1/0", "0,1"}, {"-1/0", "0,1"}, {"-1/1", "0,1"}, {"1,1;1,1/-1,-1", "1,2"}, {"1,2;2,1/-1,-1", "1,2,3"},
		{"-1,2;2,-1/1,1", "0,1,2"}, {"2,1;1,2/-2,-1", "1,3"}, {"0,0;0,0/0,0", "0"}, {"-1,0;0,-1/1,1", "0,1,2,3"},
		{"1,1,1;1,1,1;1,1,1/-1,-1,-1", "1,2,4"}, {"1,0,0,0,0;0,1,0,0,0;0,0,1,0,0;0,0,0,1,0;0,0,0,0,1/1,0,-3,0,5", "4,6,12,14"},
		{"-1,0,0,0,0;0,-1,0,0,0;0,0,1,0,0;0,0,0,1,0;0,0,0,0,0/1,1,1,-1,1", "8,9,10,11"},
	} {
		want := []int64{}
		for _, row := range rowsOrNone(c.want) {
			want = append(want, row...)
		}
		if list, code := impl.CoverList(mustParse(t, c.text)); !slices.Equal(list, want) || code != impl.ErrNone {
			t.Errorf("CoverList(%s) = %v, %d, want %s", c.text, list, code, c.want)
		}
	}
}

// TestCoversAgainstExactOnes has all sets. It counts lists by their lengths, sets by their signs, and those
// that are not basic.
func TestCoversAgainstExactOnes(t *testing.T) {
	lengths, kinds := [6][3]int{}, [6]map[string]int{{}, {}, {}, {}, {}, {}}
	for _, p := range slices.Concat(ruleProblems(250), greatProblems(60)) {
		n := len(p.M)
		want := exactFactsOf(p).feasible
		if list, code := impl.CoverList(p); !slices.Equal(list, want) || code != impl.ErrNone {
			t.Errorf("CoverList(%v) = %v, %d, want %v", p, list, code, want)
		}
		lengths[n][min(len(want), 2)]++
		for _, s := range allSets(n) {
			point := exactPoint(p, s)
			if point == nil {
				kinds[n]["not basic"]++
				checkRefused(t, "not basic", callCovered(p, s), impl.ErrState)
				continue
			}
			below := len(negativesOf(point))
			if yes, code := impl.IsCovered(p, s); yes != (below == 0) || code != impl.ErrNone {
				t.Errorf("IsCovered(%v, %d) = %v, %d, but the point is %v", p, s, yes, code, point)
			}
			switch {
			case below == 1:
				kinds[n]["one below 0"]++
			case below == 0 && len(zerosIn(point)) > 0:
				kinds[n]["on the border"]++
			case below == 0:
				kinds[n]["inner"]++
			}
		}
	}
	for n := 1; n <= impl.MaxSize; n++ {
		if slices.Min(lengths[n][:]) < 15 || min(kinds[n]["not basic"], kinds[n]["one below 0"], kinds[n]["on the border"], kinds[n]["inner"]) < 25 {
			t.Errorf("of the size %d only %v by lengths, and %v", n, lengths[n], kinds[n])
		}
	}
}

// TestCoverListsHaveFeasibleSets is the first part of promise 10, by what chapters 1 and 2 tell.
func TestCoverListsHaveFeasibleSets(t *testing.T) {
	found := [6]int{}
	for _, p := range slices.Concat(ruleProblems(400), pProblems(t)) {
		list, code := impl.CoverList(p)
		feasible, _ := impl.FeasibleSets(p)
		if !slices.Equal(list, feasible) || !slices.IsSorted(list) || code != impl.ErrNone {
			t.Errorf("CoverList(%v) = %v, %d, but feasible are %v", p, list, code, feasible)
		}
		basic, _ := impl.BasicSets(p)
		for _, s := range allSets(len(p.M)) {
			yes, code := impl.IsCovered(p, s)
			if yes != slices.Contains(list, s) || (code == impl.ErrNone) != slices.Contains(basic, s) {
				t.Errorf("IsCovered(%v, %d) = %v, %d, but the list is %v, basic are %v", p, s, yes, code, list, basic)
			}
			if !yes {
				continue
			}
			z, code := impl.SolutionOfSet(p, s)
			checkSolution(t, "SolutionOfSet", p, z, code)
			found[len(p.M)]++
		}
	}
	if slices.Min(found[1:]) < 100 {
		t.Errorf("only %v sets by sizes", found)
	}
}

func TestCoverNumbers(t *testing.T) {
	for _, c := range []struct {
		m, one, two string
	}{
		{"1", "0,2,1", "0,4,1"},
		{"20", "0,2,1", "0,4,1"},
		{"-1", "1,0,2", "2,0,3"},
		{"0", "1,2", "2,3"},
		{"1,0;0,1", "0,4,4,0,1", "0,16,8,0,1"},
		{"-1,0;0,-1", "5,0,0,0,4", "16,0,0,0,9"},
		{"0,0;0,0", "5,4", "16,9"},
		{"1,0;0,0", "3,4,2", "10,12,3"},
		{"-1,0;0,0", "5,0,4", "16,0,9"},
		{"1,0;0,-1", "3,0,4,0,2", "10,0,12,0,3"},
		{"2,1;1,2", "0,6,2,0,1", "0,18,6,0,1"},
		{"1,1;1,1", "0,5,3,1", "0,18,6,1"},
		{"0,1;1,0", "2,6,1", "8,16,1"},
		{"-1,2;2,-1", "0,5,0,3,1", "0,14,2,8,1"},
		// No vector is covered by 0 sets, and none by 1 set.
		{"-1,2,2;2,-1,2;1,1,-1", "0,0,10,4,9,3,0,0,1", "0,0,49,24,42,9,0,0,1"},
	} {
		p := problem{M: rowsOf(c.m)}
		for k, want := range []string{1: c.one, 2: c.two} {
			if k == 0 {
				continue
			}
			// Q is not used, whatever it is.
			for _, right := range []int64{0, 1, -1, 100, -100} {
				p.Q = squareOf(len(p.M), right).Q
				if got, code := impl.CoverNumbers(p, int64(k)); !slices.Equal(got, rowsOf(want)[0]) || code != impl.ErrNone {
					t.Errorf("CoverNumbers(%v, %d) = %v, %d, want %s", p, k, got, code, want)
				}
			}
		}
	}
}

// TestCoverNumbersOfDiagonals: numbers stand for themselves there, so that all sets are told by how many are 0.
func TestCoverNumbersOfDiagonals(t *testing.T) {
	for n := 1; n <= impl.MaxSize; n++ {
		for k := int64(1); k <= 2; k++ {
			all, above := int64(len(boxOf(n, k))), int64(1)
			for range n {
				above *= k + 1
			}
			// Of the identity, each number 0 doubles the cones; those without a 0 have one.
			want := make([]int64, 1<<n+1)
			for _, q := range boxOf(n, k) {
				want[1<<(n-countOther(q))]++
			}
			checkNumbers(t, identity(make([]int64, n)...), k, want)
			checkNumbers(t, squareOf(n, 0), k, []int64{all - above, above})
			opposite := identity(make([]int64, n)...)
			want = make([]int64, 1<<n+1)
			want[0], want[1<<n] = all-above, above
			for i := range opposite.M {
				opposite.M[i][i] = -20
			}
			checkNumbers(t, opposite, k, want)
		}
	}
}

// countOther returns how many numbers are not 0.
func countOther(list []int64) int {
	count := 0
	for _, x := range list {
		if x != 0 {
			count++
		}
	}
	return count
}

func checkNumbers(t *testing.T, p problem, k int64, want []int64) {
	t.Helper()
	if got, code := impl.CoverNumbers(p, k); !slices.Equal(got, want) || code != impl.ErrNone {
		t.Errorf("CoverNumbers(%v, %d) = %v, %d, want %v", p.M, k, got, code, want)
	}
}

// TestCoverNumbersAgainstExactOnes counts boxes without a vector that no set, or one set, covers.
func TestCoverNumbersAgainstExactOnes(t *testing.T) {
	none := [6][2]int{}
	for i, p := range slices.Concat(ruleProblems(60), pProblems(t)[:60], greatProblems(8)) {
		n, k := len(p.M), int64(i%7/5)+1
		want := exactNumbers(p, k)
		checkNumbers(t, p, k, want)
		for number := range none[n] {
			if number >= len(want) || want[number] == 0 {
				none[n][number]++
			}
		}
	}
	for n := 1; n <= impl.MaxSize; n++ {
		if slices.Min(none[n][:]) < 10 {
			t.Errorf("of the size %d only %v boxes without a vector with so many sets", n, none[n])
		}
	}
}

// TestCoverNumbersAreOfCoverLists counts the cover lists of all vectors.
func TestCoverNumbersAreOfCoverLists(t *testing.T) {
	for i, p := range ruleProblems(40) {
		k := int64(i/5%2) + 1
		if len(p.M) > 3 {
			k = 1
		}
		got, code := impl.CoverNumbers(p, k)
		all := int64(0)
		for _, count := range got {
			all += count
		}
		box := boxOf(len(p.M), k)
		if all != int64(len(box)) || got[len(got)-1] == 0 || code != impl.ErrNone {
			t.Fatalf("CoverNumbers(%v, %d) = %v, %d, of %d", p, k, got, code, len(box))
		}
		for _, q := range box {
			list, _ := impl.CoverList(problem{M: p.M, Q: q})
			if len(list) >= len(got) {
				t.Fatalf("CoverNumbers(%v, %d) = %v, but %v covers %v", p, k, got, list, q)
			}
			got[len(list)]--
		}
		if countOther(got) > 0 {
			t.Errorf("CoverNumbers(%v, %d): %v is left over", p, k, got)
		}
	}
}

func TestDegreeAt(t *testing.T) {
	for _, c := range []struct {
		text         string
		degree, code int64
	}{
		// Empty cover lists.
		{"-1/-1", 0, impl.ErrNone},
		{"0/-1", 0, impl.ErrNone},
		{"1,-1;-1,1/-1,-1", 0, impl.ErrNone},
		// The empty set alone, whose sign is 1, and other sets alone, with determinants greater than 0 and less.
		{"1/1", 1, impl.ErrNone},
		{"0/1", 1, impl.ErrNone},
		{"1/-1", 1, impl.ErrNone},
		{"20/-100", 1, impl.ErrNone},
		{"2,1;1,2/-5,-6", 1, impl.ErrNone},
		{"2,1;1,2/5,6", 1, impl.ErrNone},
		{"0,1;1,0/-1,-1", -1, impl.ErrNone},
		{"-1,2;2,-1/-1,-1", -1, impl.ErrNone},
		{"0,0,1;0,1,0;1,0,0/-1,-1,-1", -1, impl.ErrNone},
		{"0,1,0;0,0,1;1,0,0/-1,-1,-1", 1, impl.ErrNone},
		// Several sets, with signs that cancel out, or do not.
		{"-1/1", 0, impl.ErrNone},
		{"-1,0;0,-1/1,1", 0, impl.ErrNone},
		{"-1,1;0,1/1,-1", 0, impl.ErrNone},
		{"1,2;2,1/-1,-1", 1, impl.ErrNone},
		{"1,1;1,1/-1,-2", 1, impl.ErrNone},
		{"-1,2;2,-1/1,1", -1, impl.ErrNone},
		{"-1,2,2;2,-1,2;1,1,-1/1,1,1", -2, impl.ErrNone},
		{"1,2,2;2,1,2;2,2,1/-1,-1,-1", 1, impl.ErrNone},
		// On the border of a cone of the list: of the first one, of another one, or of all. Other cones do not matter.
		{"1/0", 0, impl.ErrState},
		{"0/0", 0, impl.ErrState},
		{"-1/0", 0, impl.ErrState},
		{"2,1;1,2/0,-1", 1, impl.ErrNone},
		{"2,1;1,2/-2,-1", 0, impl.ErrState},
		{"2,1;1,2/1,0", 0, impl.ErrState},
		{"1,1;1,1/-1,-1", 0, impl.ErrState},
		{"0,1;0,0/0,1", 0, impl.ErrState},
		{"-1,0;-1,0/1,1", 0, impl.ErrState},
		{"-1,0;1,0/1,0", 0, impl.ErrState},
		{"1,0,0,0,0;0,1,0,0,0;0,0,1,0,0;0,0,0,1,0;0,0,0,0,1/1,1,1,1,0", 0, impl.ErrState},
		{"1,0,0,0,0;0,1,0,0,0;0,0,1,0,0;0,0,0,1,0;0,0,0,0,1/1,1,1,1,-1", 1, impl.ErrNone},
	} {
		if got, code := impl.DegreeAt(mustParse(t, c.text)); got != c.degree || code != c.code {
			t.Errorf("DegreeAt(%s) = %d, %d, want %d, %d", c.text, got, code, c.degree, c.code)
		}
	}
}

// TestDegreesAgainstExactOnes counts degrees, those of several sets, and those that are not told though a cone
// of the list has Q as an inner vector.
func TestDegreesAgainstExactOnes(t *testing.T) {
	degrees, several, partly := map[int64]int{}, 0, 0
	for _, p := range slices.Concat(ruleProblems(600), pProblems(t), greatProblems(40)) {
		feasible := exactFactsOf(p).feasible
		want, told := exactDegree(p)
		if !told {
			checkRefused(t, "Q on a border", callDegree(p), impl.ErrState)
			if slices.ContainsFunc(feasible, func(s int64) bool { return len(zerosIn(exactPoint(p, s))) == 0 }) {
				partly++
			}
			continue
		}
		if got, code := impl.DegreeAt(p); got != want || code != impl.ErrNone {
			t.Errorf("DegreeAt(%v) = %d, %d, want %d", p, got, code, want)
		}
		degrees[want]++
		if len(feasible) > 2 {
			several++
		}
	}
	if min(degrees[-1], degrees[0], degrees[1]) < 20 || several < 40 || partly < 40 {
		t.Errorf("only %v, %d of several sets, %d with some inner cones", degrees, several, partly)
	}
}

// TestDegreesAreTheSame for all Q, where no minor is 0: so the cones cover all vectors evenly, but for signs.
func TestDegreesAreTheSame(t *testing.T) {
	met := map[int64]int{}
	for _, p := range slices.Concat(someProblems(200), smallProblems(200)) {
		if minors, _ := impl.MinorsOf(p.M); slices.Contains(minors, 0) || len(p.M) > 4 {
			continue
		}
		degrees := map[int64]bool{}
		for _, q := range boxOf(len(p.M), 2) {
			degree, code := impl.DegreeAt(problem{M: p.M, Q: q})
			if code == impl.ErrNone {
				degrees[degree] = true
				met[degree]++
			}
		}
		if len(degrees) != 1 {
			t.Errorf("degrees of %v = %v", p.M, degrees)
		}
	}
	if min(met[-1], met[0], met[1]) < 500 {
		t.Errorf("only %v", met)
	}
}

// TestPMatricesHaveOneOfAll is promise 12: one solution, orientations with unique sinks, and the degree 1.
// Without a number 0 in a point all of them are told, and the sets are the same.
func TestPMatricesHaveOneOfAll(t *testing.T) {
	plain, degenerate := [6]int{}, 0
	for _, p := range pProblems(t) {
		if count, code := impl.CountSolutions(p); count != 1 || code != impl.ErrNone {
			t.Errorf("CountSolutions(%v) = %d, %d", p, count, code)
		}
		list, code := impl.CoverList(p)
		if len(list) == 0 || code != impl.ErrNone {
			t.Errorf("CoverList(%v) = %v, %d", p, list, code)
		}
		degree, code := impl.DegreeAt(p)
		if degree != 1 && code == impl.ErrNone || degree != 0 && code != impl.ErrNone {
			t.Errorf("DegreeAt(%v) = %d, %d", p, degree, code)
		}
		c, cubeCode := impl.CubeOfProblem(p)
		if yes, _ := impl.HasUniqueSinks(c); !yes && cubeCode == impl.ErrNone {
			t.Errorf("CubeOfProblem(%v) = %v, without unique sinks", p, c)
		}
		if some, _ := impl.IsDegenerate(p); some {
			degenerate++
			continue
		}
		sinks, _ := impl.SinksOf(c)
		if len(list) != 1 || !slices.Equal(sinks, list) || code != impl.ErrNone || cubeCode != impl.ErrNone {
			t.Errorf("of %v: CoverList %v, sinks %v, codes %d, %d", p, list, sinks, code, cubeCode)
		}
		plain[len(p.M)]++
	}
	if slices.Min(plain[1:]) < 40 || degenerate < 50 {
		t.Errorf("only %v by sizes, and %d degenerate ones", plain, degenerate)
	}
}

// TestBoxesOfPMatrices: each vector is covered by one set at least, and by one alone if it is on no border.
// Some vector that no set covers, or that is inner in several cones, tells that M is no P matrix.
func TestBoxesOfPMatrices(t *testing.T) {
	counts := map[bool]int{}
	for _, p := range slices.Concat(pProblems(t)[:120], ruleProblems(50)) {
		k := int64(2)
		if len(p.M) > 3 {
			k = 1
		}
		isP, _ := impl.IsOfKind(p.M, impl.KindP)
		numbers, code := impl.CoverNumbers(p, k)
		if isP && (numbers[0] != 0 || numbers[1] == 0) || numbers[len(numbers)-1] == 0 || code != impl.ErrNone {
			t.Errorf("CoverNumbers(%v, %d) = %v, %d, but P %v", p.M, k, numbers, code, isP)
		}
		for _, q := range boxOf(len(p.M), k) {
			degree, code := impl.DegreeAt(problem{M: p.M, Q: q})
			if isP && degree != 1 && code == impl.ErrNone {
				t.Errorf("DegreeAt(%v, %v) = %d, of a P matrix", p.M, q, degree)
			}
		}
		counts[isP]++
	}
	if min(counts[true], counts[false]) < 50 {
		t.Errorf("only %v with and without a P matrix", counts)
	}
}

func TestFollowProblem(t *testing.T) {
	const one, two, three = "1,0;0,1/1,1", "1,0;0,1/1,2", "1,0,0;0,1,0;0,0,1/1,2,3"
	for _, c := range []struct {
		text, direction, want string
	}{
		// Without a breakpoint: no number falls.
		{"1/5", "1", "0"}, {"1/5", "100", "0"}, {"1/-5", "-1", "1"}, {"0/5", "1", "0"},
		{one, "1,0", "0"}, {one, "0,1", "0"}, {one, "1,1", "0"}, {"2,1;1,2/-5,-6", "-2,-1", "3"}, {"2,1;1,2/-5,-6", "-1,-2", "3"},
		// One breakpoint, a whole number or a fraction, in and out of the set.
		{"1/5", "-1", "0,1 at 5"}, {"1/-5", "1", "1,0 at 5"}, {"3/2", "-3", "0,1 at 2/3"}, {"3/-2", "3", "1,0 at 2/3"},
		{"20/100", "-100", "0,1 at 1"}, {"1/100", "-1", "0,1 at 100"}, {"1/1", "-100", "0,1 at 1/100"}, {"1/99", "-100", "0,1 at 99/100"},
		{"1/100", "-99", "0,1 at 100/99"}, {"20/-100", "99", "1,0 at 100/99"},
		{one, "-1,0", "0,1 at 1"}, {one, "0,-1", "0,2 at 1"}, {one, "1,-1", "0,2 at 1"}, {two, "-1,1", "0,1 at 1"}, {two, "1,-1", "0,2 at 2"},
		{"1,0;20,1/-100,0", "0,-1", "1,3 at 2000"}, {"1,0;10,1/-100,0", "0,-1", "1,3 at 1000"}, {"1,0;10,1/-100,1", "0,-1", "1,3 at 1001"},
		{"-1,3;-1,1/1,-3", "3,5", "2,0 at 3/5"}, {"1,1,-2;3,-1,0;-2,3,-3/0,3,-4", "-1,-3,5", "2,3 at 3/4"},
		// Several ones.
		{"2,1;1,2/-5,-6", "1,3", "3,1,0 at 7/5 5"}, {"2,2;0,1/-1,1", "-3,-5", "1,3,2 at 1/5 3/7"}, {"2,1;1,2/5,6", "-1,-1", "0,1,3 at 5 7"},
		{"3,-3;1,1/2,-1", "-2,3", "3,2,0,1 at 1/7 1/3 1"}, {"2,1;-3,2/2,-2", "-4,5", "2,0,1,3 at 2/5 1/2 1"},
		{"2,-3,-2;3,3,-2;-1,2,3/4,-3,-5", "-1,2,3", "7,6,4,0,1 at 23/33 19/12 5/3 4"},
		{three, "-1,-1,-1", "0,1,3,7 at 1 2 3"}, {three, "-1,-1,-100", "0,4,5,7 at 3/100 1 2"}, {three, "-1,-4,-1", "0,2,3,7 at 1/2 1 3"},
		{three, "-1,-2,0", ""},
		// The number that falls first is behind one that falls later, with a greater Num, or a greater Den.
		{"1,0;0,1/3,50", "-1,-100", "0,2,3 at 1/2 3"}, {"1,0;0,1/7,2", "-8,-1", "0,1,3 at 7/8 2"}, {"1,0;0,1/2,1", "-3,-1", "0,1,3 at 2/3 1"},
		// All sets.
		{"1,0;2,1/60,58", "-1,-1", "0,2,3,1 at 58 60 62"},
		{"1,0,0;2,1,0;2,2,1/56,52,50", "-1,-1,-1", "0,4,6,2,3,7,5,1 at 50 52 54 56 58 60 62"},
		// The first set is not the only one, or Q is not inner in it, or there is none; also if no number falls.
		{"1/0", "1", ""}, {"1/0", "-1", ""}, {"-1/1", "1", ""}, {"-1/1", "-1", ""}, {"-1/0", "1", ""}, {"1,1;1,1/-1,-2", "1,0", "2"}, {"1,1;1,1/-1,-1", "1,0", ""},
		{"2,1;1,2/1,0", "1,1", ""}, {"-1,2;2,-1/1,1", "1,1", ""}, {"1,2;2,1/-1,-1", "-1,-1", ""},
		{"0/0", "5", ""}, {"0/0", "-5", ""}, {"0,3;1,0/4,0", "4,3", ""}, {"0,0;0,0/0,1", "1,0", ""}, {"0,0;0,0/1,0", "0,1", ""},
		{"0/-1", "1", ""}, {"-1/-1", "1", ""}, {"-20/-100", "-1", ""}, {"1,-1;-1,1/-1,-1", "1,1", ""},
		// Two numbers become 0, at the first breakpoint, or later: of all numbers, or of some.
		{one, "-1,-1", ""}, {two, "-1,-2", ""}, {"2,1;1,2/-5,-5", "1,1", ""}, {"1,0;0,1/3,6", "-1,-2", ""},
		{"1,0,0;0,1,0;0,0,1/1,2,2", "-1,-1,-1", ""}, {"1,0,0;0,1,0;0,0,1/2,1,2", "-1,-1,-1", ""}, {"1,0,0;0,1,0;0,0,1/2,2,1", "-1,-1,-1", ""},
		{"1,0,0;0,1,0;0,0,1/1,1,2", "-1,-1,-1", ""}, {"1,0,0;0,1,0;0,0,1/1,2,1", "-1,-1,-1", ""}, {"1,0,0;0,1,0;0,0,1/2,1,1", "-1,-1,-1", ""},
		{"1,0,0;0,1,0;0,0,1/1,2,2", "-1,-1,0", "0,1,3 at 1 2"}, {"1,0,0;0,1,0;0,0,1/1,2,2", "-1,0,0", "0,1 at 1"},
		// Two numbers would become 0 together later on, but behind the first breakpoint one of them does not.
		{"1,0,0;4,1,0;0,0,1/1,2,2", "-1,-1,-1", "0,1,5 at 1 2"},
		// A set is not basic, at the first breakpoint or later.
		{"0/1", "-1", ""}, {"0/5", "-100", ""}, {"0,0;-1,0/4,3", "-1,-4", ""}, {"0,-1,3;-2,3,-1;3,3,-1/-4,5,-2", "3,2,-1", ""},
		{"1,0;0,0/1,2", "-1,-1", ""}, {"1,0;0,0/1,2", "-1,0", "0,1 at 1"}, {"1,0;0,0/1,2", "-1,1", "0,1 at 1"}, {"1,0;0,0/2,1", "-1,-1", ""},
		// The number exchanged does not rise, at the first breakpoint or later.
		{"2,3;1,0/-4,2", "1,-5", ""}, {"1,1;2,1/0,-4", "-5,-2", ""}, {"1,0,0;0,2,3;0,1,0/1,-4,2", "-20,1,-5", ""}, {"1,0,0;0,2,3;0,1,0/1,-4,2", "-20,1,0", "2,3,1 at 1/20 4"},
	} {
		p, d := mustParse(t, c.text), rowsOf(c.direction)[0]
		if c.want == "" {
			checkRefused(t, c.text+" along "+c.direction, callFollow(p, d), impl.ErrState)
			checkRefused(t, c.text+" along "+c.direction, callSetAt(p, d, frac{Num: 0, Den: 1}), impl.ErrState)
			continue
		}
		sets, breaks, code := impl.FollowProblem(p, d)
		if got := wayText(t, sets, breaks); got != c.want || code != impl.ErrNone {
			t.Errorf("FollowProblem(%s, %s) = %s, %d, want %s", c.text, c.direction, got, code, c.want)
		}
	}
}

// TestWaysAgainstExactOnes counts ways by the number of their breakpoints, and what ends them otherwise, at the
// first breakpoint or later.
func TestWaysAgainstExactOnes(t *testing.T) {
	lengths, ends := [6]map[int]int{{}, {}, {}, {}, {}, {}}, map[string]int{}
	for _, c := range append(someFollowed(4000), pFollowed(t)...) {
		want, wantBreaks, why := exactWay(c.p, c.d)
		if why != "" {
			checkRefused(t, why, callFollow(c.p, c.d), impl.ErrState)
			if len(wantBreaks) > 0 {
				why += " later"
			}
			ends[why]++
			continue
		}
		sets, breaks, code := impl.FollowProblem(c.p, c.d)
		if !slices.Equal(sets, want) || !sameFracs(breaks, wantBreaks) || code != impl.ErrNone {
			t.Errorf("FollowProblem(%v, %v) = %v, %v, %d, want %v, %v", c.p, c.d, sets, breaks, code, want, wantBreaks)
		}
		lengths[len(c.p.M)][len(breaks)]++
	}
	for n := 1; n <= impl.MaxSize; n++ {
		for length := range min(1<<n, 5) {
			if lengths[n][length] < 5 {
				t.Errorf("of the size %d only %v by numbers of breakpoints", n, lengths[n])
			}
		}
	}
	for _, why := range []string{"not covered", "covered twice", "not inner", "two numbers", "not basic", "not rising", "two numbers later", "not basic later", "not rising later"} {
		if ends[why] < 5 {
			t.Errorf("only %v without a way", ends)
		}
	}
}

// TestBreakpointsAscend is the second part of promise 10, with what the document guarantees of ways: they have
// one breakpoint less than sets, breakpoints ascend, and points on the way have no number less than 0.
func TestBreakpointsAscend(t *testing.T) {
	ways, longest := 0, 0
	for _, c := range append(someFollowed(3000), pFollowed(t)...) {
		sets, breaks, code := impl.FollowProblem(c.p, c.d)
		if code != impl.ErrNone {
			continue
		}
		if len(sets) != len(breaks)+1 || len(breaks) > impl.MaxTimes {
			t.Fatalf("FollowProblem(%v, %v) = %v, %v", c.p, c.d, sets, breaks)
		}
		before := wholes(0)[0]
		for k, time := range breaks {
			if order, code := impl.CompareFracs(before, time); order != -1 || code != impl.ErrNone {
				t.Errorf("FollowProblem(%v, %v) = %v, %v: breakpoint %d", c.p, c.d, sets, breaks, k)
			}
			between := new(big.Rat).Add(ratOf(before), ratOf(time))
			between.Quo(between, big.NewRat(2, 1))
			checkOnWay(t, c, sets[k], between, nil)
			at := bits.TrailingZeros64(uint64(sets[k] ^ sets[k+1]))
			if sets[k]^sets[k+1] != 1<<at || at >= len(c.p.M) || slices.Index(sets, sets[k]) != k {
				t.Errorf("FollowProblem(%v, %v) = %v, %v: set %d", c.p, c.d, sets, breaks, k)
			}
			checkOnWay(t, c, sets[k], ratOf(time), []int{at})
			checkOnWay(t, c, sets[k+1], ratOf(time), []int{at})
			before = time
		}
		last := sets[len(breaks)]
		checkOnWay(t, c, last, new(big.Rat).Add(ratOf(before), big.NewRat(1, 3)), nil)
		checkOnWay(t, c, last, big.NewRat(1000000000000, 1), nil)
		ways, longest = ways+1, max(longest, len(breaks))
	}
	if ways < 800 || longest != 31 {
		t.Errorf("only %d ways, with up to %d breakpoints", ways, longest)
	}
}

// checkOnWay looks whether just the numbers at some places of the point of a set at t are 0, and all others are
// greater than 0.
func checkOnWay(t *testing.T, c followed, s int64, time *big.Rat, zeros []int) {
	t.Helper()
	point := exactPointAt(c.p, s, c.d, time)
	if point == nil || len(negativesOf(point)) > 0 || !slices.Equal(zerosIn(point), zeros) {
		t.Errorf("the point of %d of %v, %v at %v is %v", s, c.p, c.d, time, point)
	}
}

// TestWaysStayBelowTheLimit: cones are convex, so no set is met twice, and the limit of breakpoints is never
// met. These ways have all sets.
func TestWaysStayBelowTheLimit(t *testing.T) {
	for n := 1; n <= impl.MaxSize; n++ {
		p, d := murtyWay(n)
		sets, breaks, code := impl.FollowProblem(p, d)
		met := slices.Sorted(slices.Values(sets))
		if !slices.Equal(met, allSets(n)) || len(breaks) != 1<<n-1 || sets[0] != 0 || sets[len(breaks)] != 1 || code != impl.ErrNone {
			t.Errorf("FollowProblem(%v, %v) = %v, %v, %d", p, d, sets, breaks, code)
		}
		for k, time := range breaks {
			if want := int64(64 - 2<<n + 2*k + 2); time != wholes(want)[0] {
				t.Errorf("FollowProblem(%v, %v): the breakpoint %d is %v, want %d", p, d, k, time, want)
			}
		}
	}
}

// TestWaysOfPMatrices: Q and each whole t together have one feasible set, without a number 0, and a way meets it.
func TestWaysOfPMatrices(t *testing.T) {
	met := [6]int{}
	for _, c := range pFollowed(t) {
		if _, _, code := impl.FollowProblem(c.p, c.d); code != impl.ErrNone {
			continue
		}
		for time := int64(0); time <= 70; time++ {
			moved := problem{M: c.p.M}
			for i, x := range c.p.Q {
				moved.Q = append(moved.Q, x+time*c.d[i])
			}
			list, code := impl.CoverList(moved)
			if code != impl.ErrNone {
				break
			}
			s, code := impl.SetAt(c.p, c.d, wholes(time)[0])
			if !slices.Contains(list, s) || code != impl.ErrNone {
				t.Errorf("SetAt(%v, %v, %d) = %d, %d, but the list is %v", c.p, c.d, time, s, code, list)
			}
			met[len(c.p.M)]++
		}
	}
	if slices.Min(met[1:]) < 100 {
		t.Errorf("only %v by sizes", met)
	}
}

func TestPointAt(t *testing.T) {
	const text, along = "2,1;1,2/-5,-6", "1,3"
	// A row of M ahead multiplies what is in it, and the last one has a number of its own: 20, 20, 5 and 5 times.
	const chain = "1,0,0,0,0;20,1,0,0,0;0,20,1,0,0;0,0,5,1,0;0,0,0,5,1/0,0,0,0,"
	// The determinant is 625 times 20 times 20 times 4, and nothing can be reduced in the last number.
	const blocks, first = "17,-15,0,0,0;19,20,0,0,0;0,3,20,0,0;0,0,7,20,0;0,0,0,1,", "0,1,0,0,0"
	for _, c := range []struct {
		text      string
		s         int64
		direction string
		time      string
		// The empty text for what is beyond the limits.
		want string
	}{
		// One number, at 0, at whole numbers, at fractions, and at the limits.
		{"1/5", 0, "-1", "0", "5"}, {"1/5", 0, "-1", "5", "0"}, {"1/5", 0, "-1", "6", "-1"}, {"1/5", 1, "-1", "6", "1"},
		{"0/5", 0, "1", "2", "7"}, {"3/5", 1, "1", "1/2", "-11/6"}, {"-3/5", 1, "1", "1/2", "11/6"},
		{"20/100", 1, "-100", "1000", "4995"}, {"20/100", 0, "-100", "1000", "-99900"}, {"20/100", 0, "100", "1000", "100100"},
		{"20/-1", 1, "1", "1/1000", "999/20000"}, {"20/-1", 1, "1", "999/1000", "1/20000"}, {"20/-1", 1, "1", "1000/999", "-1/19980"},
		// The example of the tests that are given: on the way, at the breakpoints, and off it.
		{text, 3, along, "0", "4/3 7/3"}, {text, 3, along, "1", "5/3 2/3"}, {text, 3, along, "7/5", "9/5 0"}, {text, 3, along, "5", "3 -6"},
		{text, 1, along, "7/5", "9/5 0"}, {text, 1, along, "2", "3/2 3/2"}, {text, 1, along, "5", "0 9"}, {text, 1, along, "1000", "-995/2 4993/2"},
		{text, 0, along, "5", "0 9"}, {text, 0, along, "1000", "995 2994"}, {text, 0, along, "1/1000", "-4999/1000 -5997/1000"}, {text, 0, along, "1000/999", "-3995/999 -998/333"},
		{text, 2, along, "0", "-2 3"}, {text, 2, along, "1", "-5/2 3/2"}, {text, 2, "-1,0", "3", "-5 3"}, {text, 2, "0,-1", "4", "0 5"},
		// Q at the border of a cone, and numbers 0 that stay.
		{"1,0;0,1/0,0", 3, "1,-1", "1/3", "-1/3 1/3"}, {"1,0;0,1/0,0", 0, "0,1", "5", "0 5"}, {"0,1;1,0/-1,-1", 3, "1,0", "1", "1 0"},
		// Num and Den at the limit, below, and beyond it.
		{chain + "0", 31, "100,0,0,0,0", "1000", "-100000 2000000 -40000000 200000000 -1000000000"},
		{chain + "-1", 31, "100,0,0,0,0", "1000", "-100000 2000000 -40000000 200000000 -999999999"},
		{chain + "1", 31, "100,0,0,0,0", "1000", ""},
		{chain + "0", 31, "-100,0,0,0,0", "1000", "100000 -2000000 40000000 -200000000 1000000000"},
		{chain + "-1", 31, "-100,0,0,0,0", "1000", ""},
		{chain + "0", 15, "100,0,0,0,0", "1000", "-100000 2000000 -40000000 200000000 1000000000"},
		{chain + "1", 15, "100,0,0,0,0", "1000", ""},
		{chain + "1", 7, "100,0,0,0,0", "1000", "-100000 2000000 -40000000 -200000000 1"},
		{blocks + "4/0,0,0,0,0", 31, first, "1/1000", "-3/125000 -17/625000 51/12500000 -357/250000000 357/1000000000"},
		{blocks + "4/0,0,0,0,0", 31, first, "1/999", "-5/208125 -17/624375 51/12487500 -357/249750000 119/333000000"},
		{blocks + "5/0,0,0,0,0", 31, first, "1/1000", ""},
		{blocks + "5/0,0,0,0,0", 31, first, "1/800", "-3/100000 -17/500000 51/10000000 -357/200000000 357/1000000000"},
		{blocks + "5/0,0,0,0,0", 31, first, "1/803", ""},
		{blocks + "5/0,0,0,0,0", 15, first, "1/1000", "-3/125000 -17/625000 51/12500000 -357/250000000 -357/250000000"},
	} {
		p, d, time := mustParse(t, c.text), rowsOf(c.direction)[0], fracsIn(t, c.time)[0]
		if c.want == "" {
			checkRefused(t, c.text+" along "+c.direction, callPointAt(p, c.s, d, time), impl.ErrLimit)
			continue
		}
		point, code := impl.PointAt(p, c.s, d, time)
		if !slices.Equal(point, fracsIn(t, c.want)) || code != impl.ErrNone {
			t.Errorf("PointAt(%s, %d, %s, %s) = %v, %d, want %s", c.text, c.s, c.direction, c.time, point, code, c.want)
		}
	}
}

// TestPointsAtAgainstExactOnes has all sets, with great numbers too, which are beyond the limits often.
func TestPointsAtAgainstExactOnes(t *testing.T) {
	told, stuck, limited := [6]int{}, [6]int{}, 0
	cases := append(someFollowed(400), pFollowed(t)[:50]...)
	for i, c := range someFollowed(100) {
		if i%5 == 4 {
			cases = append(cases, followed{greatProblems(20)[i/5], c.d})
		}
	}
	for i, c := range cases {
		times := someTimes(t, nil)
		for _, s := range allSets(len(c.p.M)) {
			time := times[(i+int(s))%len(times)]
			want := exactPointAt(c.p, s, c.d, ratOf(time))
			if want == nil {
				checkRefused(t, "not basic", callPointAt(c.p, s, c.d, time), impl.ErrState)
				stuck[len(c.p.M)]++
				continue
			}
			if isBeyond(want...) {
				checkRefused(t, "beyond the limits", callPointAt(c.p, s, c.d, time), impl.ErrLimit)
				limited++
				continue
			}
			if point, code := impl.PointAt(c.p, s, c.d, time); !sameFracs(point, want) || code != impl.ErrNone {
				t.Errorf("PointAt(%v, %d, %v, %v) = %v, %d, want %v", c.p, s, c.d, time, point, code, want)
			}
			told[len(c.p.M)]++
		}
	}
	if slices.Min(told[1:]) < 100 || slices.Min(stuck[1:]) < 10 || limited < 50 {
		t.Errorf("only %v points, %v that are not basic, %d beyond the limits", told, stuck, limited)
	}
}

// TestPointsAtZero are those of chapter 1, and those at a whole t are points of the problem moved so far.
func TestPointsAtZero(t *testing.T) {
	moves := 0
	for _, c := range someFollowed(300) {
		for _, s := range allSets(len(c.p.M)) {
			for time := range int64(4) {
				moved := problem{M: c.p.M}
				for i, x := range c.p.Q {
					moved.Q = append(moved.Q, x+time*c.d[i])
				}
				if !impl.IsProblem(moved) {
					break
				}
				want, wanted := impl.PointOf(moved, s)
				point, code := impl.PointAt(c.p, s, c.d, wholes(time)[0])
				if !slices.Equal(point, want) || code != wanted {
					t.Errorf("PointAt(%v, %d, %v, %d) = %v, %d, want %v, %d", c.p, s, c.d, time, point, code, want, wanted)
				}
				moves++
			}
		}
	}
	if moves < 5000 {
		t.Errorf("only %d points", moves)
	}
}

func TestSetAt(t *testing.T) {
	for _, c := range []struct {
		text, direction string
		// Each t with the set there.
		want map[string]int64
	}{
		{"1/5", "1", map[string]int64{"0": 0, "1": 0, "1000": 0, "1/1000": 0}},
		{"1/-5", "-1", map[string]int64{"0": 1, "1": 1, "1000": 1, "1/1000": 1}},
		// Before the breakpoint, at it, and behind it.
		{"1/5", "-1", map[string]int64{"0": 0, "4": 0, "999/200": 0, "5": 1, "901/180": 1, "6": 1, "1000": 1}},
		{"3/2", "-3", map[string]int64{"0": 0, "1/2": 0, "666/999": 1, "665/999": 0, "667/1000": 1, "666/1000": 0, "1": 1}},
		{"1/99", "-100", map[string]int64{"0": 0, "989/1000": 0, "99/100": 1, "991/1000": 1, "98/99": 0, "100/101": 1, "1000": 1}},
		// Before all, at, between and behind the breakpoints 7/5 and 5.
		{"2,1;1,2/-5,-6", "1,3", map[string]int64{
			"0": 3, "1": 3, "1/1000": 3, "1000/999": 3, "349/250": 3, "4/3": 3, "7/5": 1, "351/250": 1, "10/7": 1, "2": 1, "499/100": 1,
			"999/200": 1, "5": 0, "1000/199": 0, "6": 0, "70": 0, "999": 0, "1000": 0,
		}},
		{"3,-3;1,1/2,-1", "-2,3", map[string]int64{"0": 3, "1/8": 3, "1/7": 2, "1/4": 2, "1/3": 0, "1/2": 0, "999/1000": 0, "1": 1, "1000": 1}},
		// A breakpoint at the greatest t, behind it, and far behind it.
		{"1,0;10,1/-100,0", "0,-1", map[string]int64{"0": 1, "999": 1, "1000/999": 1, "1000": 3}},
		{"1,0;10,1/-100,1", "0,-1", map[string]int64{"0": 1, "999": 1, "1000": 1}},
		{"1,0;10,1/-100,-1", "0,-1", map[string]int64{"0": 1, "998": 1, "999": 3, "1000": 3}},
		{"1,0;20,1/-100,0", "0,-1", map[string]int64{"0": 1, "1000": 1}},
		{"1,0,0;2,1,0;2,2,1/56,52,50", "-1,-1,-1", map[string]int64{"0": 0, "49": 0, "50": 4, "51": 4, "52": 6, "53": 6, "54": 2, "56": 3, "58": 7, "60": 5, "61": 5, "62": 1, "63": 1, "999": 1}},
	} {
		p, d := mustParse(t, c.text), rowsOf(c.direction)[0]
		for time, want := range c.want {
			if s, code := impl.SetAt(p, d, fracsIn(t, time)[0]); s != want || code != impl.ErrNone {
				t.Errorf("SetAt(%s, %s, %s) = %d, %d, want %d", c.text, c.direction, time, s, code, want)
			}
		}
	}
}

// TestSetsAtAgainstExactOnes also has ways that are none: then no t has a set, be it ahead of what ends the way.
func TestSetsAtAgainstExactOnes(t *testing.T) {
	places, none := map[string]int{}, 0
	for _, c := range append(someFollowed(1200), pFollowed(t)...) {
		sets, breaks, why := exactWay(c.p, c.d)
		for _, time := range someTimes(t, fracsFrom(breaks)) {
			if why != "" {
				none++
				checkRefused(t, why, callSetAt(c.p, c.d, time), impl.ErrState)
				continue
			}
			want, place := sets[0], "before"
			for k, at := range breaks {
				switch ratOf(time).Cmp(at) {
				case 0:
					want, place = sets[k+1], "at"
				case 1:
					want, place = sets[k+1], "between"
				}
			}
			if place == "between" && want == sets[len(breaks)] {
				place = "behind"
			}
			places[place]++
			if s, code := impl.SetAt(c.p, c.d, time); s != want || code != impl.ErrNone {
				t.Errorf("SetAt(%v, %v, %v) = %d, %d, want %d of %v, %v", c.p, c.d, time, s, code, want, sets, breaks)
			}
		}
	}
	if min(places["before"], places["at"], places["between"], places["behind"], none) < 500 {
		t.Errorf("only %v, and %d without a way", places, none)
	}
}

// TestConesOfInvalidProblems gives other arguments that are wrong too: ErrInvalid comes first.
func TestConesOfInvalidProblems(t *testing.T) {
	invalid := invalidProblems()
	invalid["size 70"] = squareOf(70, 1)
	for name, p := range invalid {
		n := len(p.M)
		for _, d := range append(badDirections(max(n, 1)), slices.Repeat([]int64{1}, n), []int64{1}, []int64{1, 1}) {
			for _, k := range []int64{0, 1, 2, 3, -1, 64, leastInt, greatestInt} {
				checkRefused(t, name, callCones(p, k, k, d, frac{Num: k, Den: 1}), impl.ErrInvalid)
			}
			checkRefused(t, name, callCones(p, 0, 1, d, frac{}), impl.ErrInvalid)
		}
	}
}

// TestConesOutOfRange has sets, boxes, directions and times that are none, also where another error would come
// behind: a set is not basic, Q is not inner, or there is no way.
func TestConesOutOfRange(t *testing.T) {
	zero := frac{Num: 0, Den: 1}
	for n := 1; n <= impl.MaxSize; n++ {
		whole, ones := int64(1)<<n-1, slices.Repeat([]int64{1}, n)
		for _, p := range []problem{identity(ones...), squareOf(n, 0), squareOf(n, -1), mustMurty(t, int64(n))} {
			for _, s := range []int64{-1, -2, whole + 1, whole + 2, 64, 1 << 32, 1 << 62, leastInt, leastInt + 1, greatestInt} {
				checkRefused(t, "no set", callCovered(p, s), impl.ErrRange)
				checkRefused(t, "no set", callPointAt(p, s, ones, zero), impl.ErrRange)
			}
			for _, k := range []int64{0, -1, -2, 3, 4, 5, 1 << 32, 1<<32 + 1, 1 << 62, leastInt, leastInt + 1, greatestInt} {
				checkRefused(t, "no box", callNumbers(p, k), impl.ErrRange)
			}
			for _, d := range badDirections(n) {
				checkRefused(t, "no direction", callFollow(p, d), impl.ErrRange)
				checkRefused(t, "no direction", callSetAt(p, d, zero), impl.ErrRange)
				checkRefused(t, "no direction", callPointAt(p, whole, d, zero), impl.ErrRange)
			}
			for _, time := range badTimes(t) {
				checkRefused(t, "no time", callSetAt(p, ones, time), impl.ErrRange)
				checkRefused(t, "no time", callPointAt(p, whole, ones, time), impl.ErrRange)
				checkRefused(t, "no time", callPointAt(p, 0, ones, time), impl.ErrRange)
			}
		}
	}
}

// TestDirectionsAtTheLimit have numbers of 100, and times their greatest numbers.
func TestDirectionsAtTheLimit(t *testing.T) {
	for n := 1; n <= impl.MaxSize; n++ {
		for _, x := range []int64{100, -100} {
			for i := range n {
				p, d := identity(slices.Repeat([]int64{100}, n)...), make([]int64, n)
				d[i] = x
				sets, breaks := []int64{0}, []frac(nil)
				if x < 0 {
					sets, breaks = append(sets, 1<<i), wholes(1)
				}
				got, gotBreaks, code := impl.FollowProblem(p, d)
				if !slices.Equal(got, sets) || !slices.Equal(gotBreaks, breaks) || code != impl.ErrNone {
					t.Errorf("FollowProblem(%v, %v) = %v, %v, %d", p, d, got, gotBreaks, code)
				}
				for _, time := range fracsIn(t, "1000 1000/999 999/1000 1/1000 0") {
					want := exactPointAt(p, 0, d, ratOf(time))
					if point, code := impl.PointAt(p, 0, d, time); !sameFracs(point, want) || code != impl.ErrNone {
						t.Errorf("PointAt(%v, 0, %v, %v) = %v, %d", p, d, time, point, code)
					}
				}
			}
		}
	}
}

// TestConesOfGreatNumbers has numbers at the limits: breakpoints have numbers of millions then. All stay within
// the limits of fractions, as they are quotients of determinants of columns with one column of Q or of a direction,
// none of which is greater than 900000000, by Hadamard's bound.
func TestConesOfGreatNumbers(t *testing.T) {
	source := rand.New(rand.NewSource(33))
	greatest, ways, long := int64(0), 0, 0
	for i, p := range slices.Concat(greatProblems(80), skewProblems(200)) {
		d := make([]int64, len(p.Q))
		for r := range d {
			d[r] = (2*source.Int63n(2) - 1) * (impl.MaxRight - source.Int63n(12))
			if i%3 == 0 {
				d[r] = max(-p.Q[r]-source.Int63n(9), -100)
			}
		}
		want, wantBreaks, why := exactWay(p, d)
		if why != "" {
			checkRefused(t, why, callFollow(p, d), impl.ErrState)
			continue
		}
		sets, breaks, code := impl.FollowProblem(p, d)
		if !slices.Equal(sets, want) || !sameFracs(breaks, wantBreaks) || code != impl.ErrNone {
			t.Errorf("FollowProblem(%v, %v) = %v, %v, %d, want %v, %v", p, d, sets, breaks, code, want, wantBreaks)
		}
		for _, time := range breaks {
			greatest = max(greatest, time.Num, time.Den)
		}
		ways++
		if len(breaks) > 2 {
			long++
		}
	}
	if greatest < 200000000 || ways < 150 || long < 90 {
		t.Errorf("only %d ways, %d of them long, with numbers up to %d", ways, long, greatest)
	}
}

// skewProblems returns the same problems at each call, with P matrices of great numbers: those beside the diagonal
// are opposite, so that a form tells of the diagonal alone.
func skewProblems(count int) []problem {
	source := rand.New(rand.NewSource(34))
	list := []problem{}
	for range count {
		p := squareOf(5, impl.MaxEntry)
		for i := range p.M {
			p.Q[i] = (2*source.Int63n(2) - 1) * (impl.MaxRight - source.Int63n(9))
			for k := range i {
				p.M[i][k] = (2*source.Int63n(2) - 1) * (impl.MaxEntry - source.Int63n(3))
				p.M[k][i] = -p.M[i][k]
			}
		}
		list = append(list, p)
	}
	return list
}

// TestConeCallsLeaveNothing: no argument is changed, and each call tells the same once more, also behind calls
// that end with errors.
func TestConeCallsLeaveNothing(t *testing.T) {
	for _, text := range []string{"1,0,0;2,1,0;2,2,1/56,52,50", "-1,2,2;2,-1,2;1,1,-1/1,1,1", "0,-1,1;1,-1,0;1,0,0/2,-2,2", "1,1,1;1,1,1;1,1,1/-1,-2,-3"} {
		p, same := guardedProblem(mustParse(t, text))
		d, sameDirection := guarded([]int64{-1, -1, -1}, 55)
		first := callManyCones(p, d)
		callManyCones(problem{}, d)
		callManyCones(mustParse(t, "0/-1"), d)
		callManyCones(mustParse(t, "2,1;1,2/-5,-6"), []int64{1, 3})
		if again := callManyCones(p, d); !reflect.DeepEqual(first, again) {
			t.Errorf("results = %v, then %v", first, again)
		}
		if !same() || !sameDirection() {
			t.Errorf("an argument has been changed")
		}
	}
}

// callManyCones calls all functions of chapter 10, also with numbers out of range.
func callManyCones(p problem, d []int64) []reply {
	list := []reply{}
	for k := int64(-1); k <= 8; k++ {
		list = append(list, callCones(p, k, k, d, frac{Num: 10 * k, Den: 1})...)
	}
	return list
}

// TestConeResultsAreNew writes into results, and looks at their neighbours, at the arguments and at the next results.
func TestConeResultsAreNew(t *testing.T) {
	const text = "1,0,0;2,1,0;2,2,1/56,52,50"
	p, d := mustParse(t, text), []int64{-1, -1, -1}
	first := callManyCones(p, d)
	lists, fracs := rows{}, [][]frac{}
	for range 2 {
		sets, breaks, _ := impl.FollowProblem(p, d)
		still, none, _ := impl.FollowProblem(p, []int64{1, 0, 0})
		covers, _ := impl.CoverList(p)
		counts, _ := impl.CoverNumbers(p, 1)
		point, _ := impl.PointAt(p, 5, d, wholes(60)[0])
		origin, _ := impl.PointAt(p, 0, d, wholes(0)[0])
		lists, fracs = append(lists, sets, still, covers, counts), append(fracs, breaks, none, point, origin)
	}
	spoilRows(t, "sets and counts", lists)
	spoilFracs(t, "breakpoints and points", fracs)
	if !sameProblems(p, mustParse(t, text)) || !slices.Equal(d, []int64{-1, -1, -1}) {
		t.Errorf("the arguments are now %v, %v", p, d)
	}
	if again := callManyCones(p, d); !reflect.DeepEqual(first, again) {
		t.Errorf("results = %v, then %v", first, again)
	}
}
