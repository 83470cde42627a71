package tests

import (
	"math/big"
	"math/rand"
	"reflect"
	"slices"
	"strconv"
	"strings"
	"testing"

	"loop.example/g01343/impl"
)

// wantedRun is what the method goes through: the steps, the basic variables and the numbers on the
// right before and after each of them, and the solution or the ray at the end.
type wantedRun struct {
	steps, bases rows
	rights       [][]*big.Rat
	solved       bool
	end          []*big.Rat
}

// rowsOrNone takes the empty text as no rows.
func rowsOrNone(text string) rows {
	if text == "" {
		return nil
	}
	return rowsOf(text)
}

// callAfter calls all functions that tell of the table after k steps.
func callAfter(p problem, cover []int64, k int64) []reply {
	basis, a := impl.BasisAfter(p, cover, k)
	number, b := impl.CoverAfter(p, cover, k)
	right, c := impl.RightAfter(p, cover, k)
	return []reply{
		{"BasisAfter", []any{basis}, len(basis) == 0, a},
		{"CoverAfter", []any{number}, number == frac{}, b},
		{"RightAfter", []any{right}, len(right) == 0, c},
	}
}

// callLemke calls all functions of chapter 5 that take a cover.
func callLemke(p problem, cover []int64, k int64) []reply {
	steps, solved, a := impl.LemkeSteps(p, cover)
	z, b := impl.LemkeSolution(p, cover)
	ray, c := impl.LemkeRay(p, cover)
	return append([]reply{
		{"LemkeSteps", []any{steps, solved}, len(steps) == 0 && !solved, a},
		{"LemkeSolution", []any{z}, len(z) == 0, b},
		{"LemkeRay", []any{ray}, len(ray) == 0, c},
	}, callAfter(p, cover, k)...)
}

func callCount(p problem, most int64) []reply {
	solutions, rays, code := impl.CountLemke(p, most)
	return []reply{{"CountLemke", []any{solutions, rays}, solutions == 0 && rays == 0, code}}
}

func sameFracs(list []frac, want []*big.Rat) bool {
	for _, a := range list {
		if !impl.IsFrac(a) {
			return false
		}
	}
	return compareRats(ratsOf(list), want) == 0
}

// checkRun looks at what all functions tell of a run, and at the numbers of steps that are refused.
func checkRun(t *testing.T, p problem, cover []int64, want wantedRun) {
	t.Helper()
	steps, solved, code := impl.LemkeSteps(p, cover)
	if !sameRows(steps, want.steps) || solved != want.solved || code != impl.ErrNone {
		t.Errorf("LemkeSteps(%v, %v) = %v, %v, %d, want %v, %v", p, cover, steps, solved, code, want.steps, want.solved)
	}
	z, code := impl.LemkeSolution(p, cover)
	ray, rayCode := impl.LemkeRay(p, cover)
	if want.solved {
		checkRefused(t, "an end with a solution", []reply{{"LemkeRay", []any{p, cover, ray}, len(ray) == 0, rayCode}}, impl.ErrNotFound)
		if !sameFracs(z, want.end) || code != impl.ErrNone {
			t.Errorf("LemkeSolution(%v, %v) = %v, %d, want %v", p, cover, z, code, want.end)
		}
	} else {
		checkRefused(t, "an end with a ray", []reply{{"LemkeSolution", []any{p, cover, z}, len(z) == 0, code}}, impl.ErrNotFound)
		if !sameFracs(ray, want.end) || rayCode != impl.ErrNone {
			t.Errorf("LemkeRay(%v, %v) = %v, %d, want %v", p, cover, ray, rayCode, want.end)
		}
	}
	for k := range want.bases {
		checkAfter(t, p, cover, int64(k), want)
	}
	beyond := int64(len(want.bases))
	for _, k := range []int64{-1, -2, leastInt, leastInt + 1, beyond, beyond + 1, impl.MaxSteps, impl.MaxSteps + 1, 1 << 32, 1 << 62, greatestInt} {
		checkRefused(t, "k "+strconv.FormatInt(k, 10), callAfter(p, cover, k), impl.ErrRange)
	}
}

func checkAfter(t *testing.T, p problem, cover []int64, k int64, want wantedRun) {
	t.Helper()
	basis, a := impl.BasisAfter(p, cover, k)
	if !slices.Equal(basis, want.bases[k]) || a != impl.ErrNone {
		t.Errorf("BasisAfter(%v, %v, %d) = %v, %d, want %v", p, cover, k, basis, a, want.bases[k])
	}
	right, b := impl.RightAfter(p, cover, k)
	if !sameFracs(right, want.rights[k]) || b != impl.ErrNone {
		t.Errorf("RightAfter(%v, %v, %d) = %v, %d, want %v", p, cover, k, right, b, want.rights[k])
	}
	covering := new(big.Rat)
	if i := slices.Index(want.bases[k], int64(2*len(p.M))); i >= 0 {
		covering = want.rights[k][i]
	}
	number, c := impl.CoverAfter(p, cover, k)
	if !sameFracs([]frac{number}, []*big.Rat{covering}) || c != impl.ErrNone {
		t.Errorf("CoverAfter(%v, %v, %d) = %v, %d, want %v", p, cover, k, number, c, covering)
	}
}

func TestMaxSteps(t *testing.T) {
	if impl.MaxSteps != 200 {
		t.Errorf("MaxSteps = %d", impl.MaxSteps)
	}
}

func TestLemkeCases(t *testing.T) {
	for _, c := range []struct {
		text, cover, steps string
		solved             bool
		end, bases, rights string
	}{
		// The example of the document, and other covers.
		{"2,1;1,2/-5,-6", "1,1", "4,1;3,0;2,4", true, "4/3 7/3", "0,1;0,4;3,4;3,2", "-5 -6;1 6;1 4;7/3 4/3"},
		{"2,1;1,2/-5,-6", "1,2", "4,0;2,1;3,4", true, "4/3 7/3", "0,1;4,1;4,2;3,2", "-5 -6;5 4;7/3 4/3;7/3 4/3"},
		{"2,1;1,2/-5,-6", "20,1", "4,1;3,0;2,4", true, "4/3 7/3", "0,1;0,4;3,4;3,2", "-5 -6;115 6;115/39 4/39;7/3 4/3"},
		// No number of Q less than 0: no step, whatever M is.
		{"-1/3", "1", "", true, "0", "0", "3"},
		{"0/0", "20", "", true, "0", "0", "0"},
		{"1,2;3,4/0,5", "1,2", "", true, "0 0", "0,1", "0 5"},
		{"-20,0;0,-20/100,100", "3,3", "", true, "0 0", "0,1", "100 100"},
		// One number: solutions, and rays with which z(0) would enter.
		{"1/-1", "20", "2,0;1,2", true, "1", "0;2;1", "-1;1/20;1"},
		{"20/-100", "7", "2,0;1,2", true, "5", "0;2;1", "-100;100/7;5"},
		{"0/-1", "1", "2,0", false, "0 1 0", "0;2", "-1;1"},
		{"-1/-1", "1", "2,0", false, "0 1 1", "0;2", "-1;1"},
		{"-20/-100", "20", "2,0", false, "0 1 1", "0;2", "-100;5"},
		// The first row: the last one of ties, by numbers divided by those of the cover.
		{"1,0;0,1/-1,-1", "1,1", "4,1;3,0;2,4", true, "1 1", "0,1;0,4;3,4;3,2", "-1 -1;0 1;0 1;1 1"},
		{"1,0;0,1/-2,-1", "2,1", "4,1;3,0;2,4", true, "2 1", "0,1;0,4;3,4;3,2", "-2 -1;0 1;0 1;1 2"},
		{"1,0;0,1/-1,-2", "1,2", "4,1;3,0;2,4", true, "1 2", "0,1;0,4;3,4;3,2", "-1 -2;0 1;0 1;2 1"},
		{"1,0;0,1/-1,-1", "2,1", "4,1;3,0;2,4", true, "1 1", "0,1;0,4;3,4;3,2", "-1 -1;1 1;1/2 1/2;1 1"},
		{"1,0;0,1/-1,-1", "1,2", "4,0;2,1;3,4", true, "1 1", "0,1;4,1;4,2;3,2", "-1 -1;1 1;1/2 1/2;1 1"},
		{"1,0,0;0,1,0;0,0,1/-3,-6,-4", "1,2,2", "6,1;4,0;3,2;5,6", true, "3 6 4", "0,1,2;0,6,2;4,6,2;4,6,3;4,5,3", "-3 -6 -4;0 3 2;0 3 2;2 2 1;6 4 3"},
		{"0,0;0,0/-1,0", "1,1", "4,0", false, "0 0 1 0 0", "0,1;4,1", "-1 0;1 1"},
		{"0,0;0,0/0,-1", "1,1", "4,1", false, "0 0 0 1 0", "0,1;0,4", "0 -1;1 1"},
		// Rays with which a z would enter, after one step and after two, and one with w(1).
		{"0,1;1,0/-1,-1", "1,1", "4,1", false, "1 0 0 1 0", "0,1;0,4", "-1 -1;0 1"},
		{"1,-1;-1,1/-1,-1", "1,1", "4,1;3,0", false, "0 0 1 1 0", "0,1;0,4;3,4", "-1 -1;0 1;0 1"},
		{"0,-1;1,0/-1,-1", "1,1", "4,1;3,0;2,3", false, "0 1 1 0 0", "0,1;0,4;3,4;2,4", "-1 -1;0 1;0 1;0 1"},
		// Ties that only the lexicographic rule decides: the least row, or the greatest one, would lead
		// to another end, or nowhere.
		{"0,1,-2;1,1,1;0,0,-2/-1,-1,0", "2,1,1", "6,1;4,6", true, "0 1 0", "0,1,2;0,6,2;0,4,2", "-1 -1 0;1 1 1;0 1 0"},
		{"-2,0,-2;-1,1,2;0,1,-1/-2,-2,-2", "2,2,2", "6,2;5,0;3,1;4,5;2,4", false, "0 1 2 1 0 0 1", "0,1,2;0,1,6;5,1,6;5,3,6;4,3,6;2,3,6", "-2 -2 -2;0 0 1;0 0 1;0 0 1;0 0 1;0 0 1"},
		{"1,-1,-2;0,0,-1;1,0,1/-2,0,-2", "2,2,1", "6,2;5,0;3,1;4,6", true, "2 0 0", "0,1,2;0,1,6;5,1,6;5,3,6;5,3,4", "-2 0 -2;2 4 2;1/2 5/2 3/2;0 2 0;0 2 0"},
		{"0,-1,-1,1;2,0,2,0;2,1,-1,1;-1,-2,-2,0/0,0,-1,0", "2,1,1,1", "8,2;6,3;7,8", true, "0 0 0 1", "0,1,2,3;0,1,8,3;0,1,8,6;0,1,7,6", "0 0 -1 0;2 1 1 1;3 4 2 1;1 0 1 0"},
		{"-2,-1,1,-2;2,0,0,2;-2,-1,0,-1;1,2,1,1/0,-1,0,-2", "1,1,1,2", "8,3;7,0;4,2;6,4;0,1;5,0;4,6;2,4;0,7;3,2", false, "1 0 0 1 0 0 1 0 0", "0,1,2,3;0,1,2,8;7,1,2,8;7,1,4,8;7,1,6,8;7,0,6,8;7,5,6,8;7,5,4,8;7,5,2,8;0,5,2,8;0,5,3,8", "0 -1 0 -2;1 0 1 1;2/5 3/5 2/5 4/5;0 3/5 2/5 4/5;1/2 1/2 1/2 1/2;1/3 2/3 1 1/3;1/4 1/4 1/4 1/2;0 3/11 2/11 7/11;2/11 3/11 2/11 7/11;1 0 1 1;0 1 2 1"},
		// Fractions on the way and at the end.
		{"7,3;-2,5/-9,-11", "3,2", "4,1;3,0;2,4", true, "12/41 95/41", "0,1;0,4;3,4;3,2", "-9 -11;15/2 11/2;5/3 4/3;95/41 12/41"},
		{"3,-1,0;2,5,1;0,-4,7/-10,3,-8", "1,2,3", "6,0;3,2;5,6", true, "10/3 0 8/7", "0,1,2;6,1,2;6,1,3;5,1,3", "-10 3 -8;10 23 22;8/3 119/9 22/9;8/7 227/21 10/3"},
	} {
		want := wantedRun{steps: rowsOrNone(c.steps), bases: rowsOf(c.bases), solved: c.solved, end: ratsFrom(t, c.end)}
		for right := range strings.SplitSeq(c.rights, ";") {
			want.rights = append(want.rights, ratsFrom(t, right))
		}
		checkRun(t, mustParse(t, c.text), rowsOf(c.cover)[0], want)
	}
}

// columnOfVariable returns the factors of a variable in the equations.
func columnOfVariable(p problem, cover []int64, variable int64) []int64 {
	n := len(p.M)
	column := make([]int64, n)
	for i := range column {
		switch {
		case variable == int64(2*n):
			column[i] = -cover[i]
		case variable >= int64(n):
			column[i] = -p.M[i][variable-int64(n)]
		case variable == int64(i):
			column[i] = 1
		}
	}
	return column
}

// exactlySolved returns what stands, in the table with these basic variables, in the place of a
// column of the equations. It does not go by steps, but by the equations themselves.
func exactlySolved(p problem, cover, basis, column []int64) []*big.Rat {
	equations := [][]*big.Rat{}
	for i := range p.M {
		equation := []*big.Rat{}
		for _, variable := range basis {
			equation = append(equation, big.NewRat(columnOfVariable(p, cover, variable)[i], 1))
		}
		equations = append(equations, append(equation, big.NewRat(column[i], 1)))
	}
	return exactSolution(equations)
}

// exactKeys returns the keys of all rows of the table with these basic variables.
func exactKeys(p problem, cover, basis []int64) [][]*big.Rat {
	keys := make([][]*big.Rat, len(p.M))
	columns := rows{p.Q}
	for i := range p.M {
		columns = append(columns, columnOfVariable(p, cover, int64(i)))
	}
	for _, column := range columns {
		for i, x := range exactlySolved(p, cover, basis, column) {
			keys[i] = append(keys[i], x)
		}
	}
	return keys
}

// exactLeast returns the row with the least key divided by its factor, or -1.
func exactLeast(keys [][]*big.Rat, factors []*big.Rat) int {
	least, row := []*big.Rat(nil), -1
	for i, factor := range factors {
		if factor.Sign() <= 0 {
			continue
		}
		key := []*big.Rat{}
		for _, x := range keys[i] {
			key = append(key, new(big.Rat).Quo(x, factor))
		}
		if row < 0 || compareRats(key, least) < 0 {
			least, row = key, i
		}
	}
	return row
}

// exactLemke follows the method with the tables found anew after each step, apart from the program.
func exactLemke(p problem, cover []int64) wantedRun {
	n := int64(len(p.M))
	basis, run := []int64{}, wantedRun{}
	for i := range n {
		basis = append(basis, i)
	}
	keys := exactKeys(p, cover, basis)
	keep := func() {
		right := []*big.Rat{}
		for _, key := range keys {
			right = append(right, key[0])
		}
		run.bases, run.rights = append(run.bases, slices.Clone(basis)), append(run.rights, right)
	}
	keep()
	entering, row := 2*n, exactLeast(keys, ratRows(rows{cover}, new(big.Rat))[0])
	for done := slices.Min(p.Q) >= 0; !done; {
		leaving := basis[row]
		basis[row] = entering
		run.steps = append(run.steps, []int64{entering, leaving})
		keys = exactKeys(p, cover, basis)
		keep()
		if leaving == 2*n {
			break
		}
		entering = leaving + n
		if leaving >= n {
			entering = leaving - n
		}
		factors := exactlySolved(p, cover, basis, columnOfVariable(p, cover, entering))
		if row = exactLeast(keys, factors); row < 0 {
			run.end = exactRay(basis, factors, entering)
			return run
		}
	}
	run.solved = true
	run.end = zerosOf(int(n))
	for i, variable := range basis {
		if variable >= n {
			run.end[variable-n] = keys[i][0]
		}
	}
	return run
}

func exactRay(basis []int64, factors []*big.Rat, entering int64) []*big.Rat {
	ray := zerosOf(2*len(basis) + 1)
	ray[entering].SetInt64(1)
	for i, variable := range basis {
		ray[variable].Neg(factors[i])
	}
	return ray
}

func zerosOf(n int) []*big.Rat {
	list := []*big.Rat{}
	for range n {
		list = append(list, new(big.Rat))
	}
	return list
}

// lemkeProblems returns the same problems at each call, of all sizes: with great numbers, with small
// ones, and with so many equal ones on the right that most steps have ties.
func lemkeProblems(count int) []problem {
	list := append(someProblems(count/2), smallProblems(count/4)...)
	for i, p := range smallProblems(count / 2)[count/4:] {
		for k := range p.Q {
			p.Q[k] = -int64((i/5 + k*k) % 2)
		}
		list = append(list, p)
	}
	return list
}

// someCovers returns the same covers at each call: of ones, of the greatest number, with small
// numbers, and with any.
func someCovers(n int, seed int64) rows {
	source := rand.New(rand.NewSource(seed))
	ones, greatest, small, free := []int64{}, []int64{}, []int64{}, []int64{}
	for range n {
		ones, greatest = append(ones, 1), append(greatest, impl.MaxEntry)
		small = append(small, 1+source.Int63n(2))
		free = append(free, 1+source.Int63n(impl.MaxEntry))
	}
	return rows{ones, greatest, small, free}
}

func TestLemkeAgainstExactOnes(t *testing.T) {
	solved, rays, atOnce, tied := [6]int{}, [6]int{}, [6]int{}, [6]int{}
	for i, p := range lemkeProblems(800) {
		for _, cover := range someCovers(len(p.M), int64(i)) {
			want := exactLemke(p, cover)
			checkRun(t, p, cover, want)
			switch n := len(p.M); {
			case len(want.steps) == 0:
				atOnce[n]++
			case want.solved:
				solved[n]++
			default:
				rays[n]++
			}
			for _, right := range want.rights[1:] {
				if slices.ContainsFunc(right, func(x *big.Rat) bool { return x.Sign() == 0 }) {
					tied[len(p.M)]++
				}
			}
		}
	}
	if slices.Min(solved[1:]) < 20 || slices.Min(rays[1:]) < 20 || slices.Min(atOnce[1:]) < 3 || slices.Min(tied[2:]) < 30 {
		t.Errorf("only %v solutions, %v rays, %v at once, %v tables with 0 on the right", solved, rays, atOnce, tied)
	}
}

// numbersOf returns the numbers of all variables in a table.
func numbersOf(n int, basis []int64, right []frac) []*big.Rat {
	numbers := zerosOf(2*n + 1)
	for i, variable := range basis {
		numbers[variable] = ratOf(right[i])
	}
	return numbers
}

// fulfil reports whether numbers of all variables fulfil the equations with these right sides.
func fulfil(p problem, cover []int64, numbers []*big.Rat, sides []int64) bool {
	for i := range p.M {
		sum := new(big.Rat)
		for variable, x := range numbers {
			factor := big.NewRat(columnOfVariable(p, cover, int64(variable))[i], 1)
			sum.Add(sum, factor.Mul(factor, x))
		}
		if sum.Cmp(big.NewRat(sides[i], 1)) != 0 {
			return false
		}
	}
	return true
}

// TestLemkeSolutionsAreSolutions is promise 5, the first part.
func TestLemkeSolutionsAreSolutions(t *testing.T) {
	found := [6]int{}
	for i, p := range lemkeProblems(2000) {
		for _, cover := range someCovers(len(p.M), int64(i)) {
			z, code := impl.LemkeSolution(p, cover)
			if code == impl.ErrNotFound {
				continue
			}
			checkSolution(t, "LemkeSolution", p, z, code)
			if slices.Min(p.Q) < 0 {
				found[len(p.M)]++
			}
		}
	}
	if slices.Min(found[1:]) < 100 {
		t.Errorf("only %v solutions", found)
	}
}

// TestLemkeTables is promise 5, the second part, with what else goes for all tables on the way: they
// fulfil the equations, just one pair of partners is away while v is basic, and none comes twice.
func TestLemkeTables(t *testing.T) {
	looked, longest := [6]int{}, 0
	for i, p := range lemkeProblems(1000) {
		n := len(p.M)
		for _, cover := range someCovers(n, int64(i)) {
			steps, solved, code := impl.LemkeSteps(p, cover)
			if code != impl.ErrNone {
				t.Fatalf("LemkeSteps(%v, %v): code %d", p, cover, code)
			}
			// So many choices of one from each pair but one, and the last table.
			if most := n<<(n-1) + 1; len(steps) > most {
				t.Errorf("LemkeSteps(%v, %v) = %v: more than %d steps", p, cover, steps, most)
			}
			longest = max(longest, len(steps))
			met := map[string]bool{}
			for k := range len(steps) + 1 {
				looked[n]++
				key := checkTable(t, p, cover, int64(k), k > 0 && (k < len(steps) || !solved))
				if met[key] {
					t.Errorf("BasisAfter(%v, %v, %d): the variables %q once more", p, cover, k, key)
				}
				met[key] = true
			}
		}
	}
	if slices.Min(looked[1:]) < 500 || longest < 8 || longest > impl.MaxSteps {
		t.Errorf("only %v tables, at most %d steps", looked, longest)
	}
}

// checkTable looks at the table after k steps, and returns its basic variables in order.
func checkTable(t *testing.T, p problem, cover []int64, k int64, covered bool) string {
	t.Helper()
	n := len(p.M)
	basis, a := impl.BasisAfter(p, cover, k)
	right, b := impl.RightAfter(p, cover, k)
	number, c := impl.CoverAfter(p, cover, k)
	if len(basis) != n || len(right) != n || a != impl.ErrNone || b != impl.ErrNone || c != impl.ErrNone {
		t.Fatalf("after %d steps of %v, %v: %v, %v, %v, %d, %d, %d", k, p, cover, basis, right, number, a, b, c)
	}
	numbers := numbersOf(n, basis, right)
	if !fulfil(p, cover, numbers, p.Q) {
		t.Errorf("after %d steps of %v, %v the numbers %v do not fulfil the equations", k, p, cover, numbers)
	}
	for _, x := range right {
		if k > 0 && x.Num < 0 {
			t.Errorf("RightAfter(%v, %v, %d) = %v", p, cover, k, right)
		}
	}
	if number.Num < 0 || ratOf(number).Cmp(numbers[2*n]) != 0 || slices.Contains(basis, int64(2*n)) != covered {
		t.Errorf("CoverAfter(%v, %v, %d) = %v, but the table has %v, %v", p, cover, k, number, basis, right)
	}
	away := 0
	for i := range n {
		w, z := slices.Contains(basis, int64(i)), slices.Contains(basis, int64(n+i))
		if w && z {
			t.Errorf("BasisAfter(%v, %v, %d) = %v: both partners of %d", p, cover, k, basis, i)
		}
		if !w && !z {
			away++
		}
	}
	if covered != (away == 1) {
		t.Errorf("BasisAfter(%v, %v, %d) = %v: %d pairs are away", p, cover, k, basis, away)
	}
	slices.Sort(basis)
	words := []string{}
	for _, x := range basis {
		words = append(words, strconv.FormatInt(x, 10))
	}
	return strings.Join(words, " ")
}

// TestLemkeRays: along a ray, from the last table on, the equations stay fulfilled, no number falls,
// and of w(i) and z(i) one stays 0. The one that would enter is the partner of what left last; v never
// would, as it has entered first, and the method ends when it leaves.
func TestLemkeRays(t *testing.T) {
	withW, withZ := [6]int{}, [6]int{}
	for i, p := range lemkeProblems(1000) {
		n := len(p.M)
		for _, cover := range someCovers(n, int64(i)) {
			ray, code := impl.LemkeRay(p, cover)
			if code == impl.ErrNotFound {
				continue
			}
			steps, _, _ := impl.LemkeSteps(p, cover)
			if len(ray) != 2*n+1 || len(steps) == 0 || code != impl.ErrNone {
				t.Fatalf("LemkeRay(%v, %v) = %v, %d, behind %v", p, cover, ray, code, steps)
			}
			last := int64(len(steps))
			basis, _ := impl.BasisAfter(p, cover, last)
			right, _ := impl.RightAfter(p, cover, last)
			entering := (int(steps[last-1][1]) + n) % (2 * n)
			if ray[entering] != (frac{Num: 1, Den: 1}) || slices.Contains(basis, int64(entering)) || !slices.Contains(basis, int64(2*n)) {
				t.Errorf("LemkeRay(%v, %v) = %v: %d would enter, besides %v", p, cover, ray, entering, basis)
			}
			if !fulfil(p, cover, ratsOf(ray), make([]int64, n)) {
				t.Errorf("LemkeRay(%v, %v) = %v: the equations are not fulfilled along it", p, cover, ray)
			}
			for k, x := range ray {
				if x.Num < 0 || x.Num > 0 && k != entering && !slices.Contains(basis, int64(k)) {
					t.Errorf("LemkeRay(%v, %v) = %v, from %v", p, cover, ray, basis)
				}
			}
			checkPairs(t, p, ray, numbersOf(n, basis, right))
			if entering < n {
				withW[n]++
			} else {
				withZ[n]++
			}
		}
	}
	if slices.Min(withW[2:]) < 20 || slices.Min(withZ[1:]) < 20 {
		t.Errorf("only %v rays with a w, %v with a z", withW, withZ)
	}
}

func checkPairs(t *testing.T, p problem, ray []frac, from []*big.Rat) {
	t.Helper()
	n := len(p.M)
	for i := range n {
		w := ray[i].Num != 0 || from[i].Sign() != 0
		z := ray[n+i].Num != 0 || from[n+i].Sign() != 0
		if w && z {
			t.Errorf("the ray %v of %v, from %v: neither of the partners of %d stays 0", ray, p, from, i)
		}
	}
}

// pProblems returns the same problems at each call, of all sizes, with P matrices of many kinds:
// triangular ones, dominant ones, and any others.
func pProblems(t *testing.T) []problem {
	source := rand.New(rand.NewSource(15))
	list, counts := []problem{}, [6]int{}
	for i := 0; slices.Min(counts[1:]) < 60; i++ {
		p := squareOf(i%impl.MaxSize+1, 0)
		for r := range p.M {
			p.Q[r] = source.Int63n(2*impl.MaxRight+1) - impl.MaxRight
			for c := range p.M {
				switch {
				case r == c:
					p.M[r][c] = 1 + source.Int63n(impl.MaxEntry)
				case i/5%3 > 0 || r > c:
					p.M[r][c] = source.Int63n(13) - 6
				}
			}
			if i/5%4 == 0 {
				p.Q[r] = -source.Int63n(3)
			}
		}
		isP, code := impl.IsOfKind(p.M, impl.KindP)
		if code != impl.ErrNone {
			t.Fatalf("IsOfKind(%v): code %d", p.M, code)
		}
		if isP && counts[len(p.M)] < 90 {
			counts[len(p.M)]++
			list = append(list, p)
		}
	}
	return append(list,
		mustParse(t, "1,0;2,1/-1,-1"), mustParse(t, "1,0,0;2,1,0;2,2,1/-1,-1,-1"), mustParse(t, "1,2,0;0,1,2;2,0,1/-1,-1,-1"),
		mustParse(t, "1,0,0,0;2,1,0,0;2,2,1,0;2,2,2,1/-4,-3,-2,-1"), mustParse(t, "1,2,2,2,2;0,1,2,2,2;0,0,1,2,2;0,0,0,1,2;0,0,0,0,1/-1,-2,-4,-8,-16"))
}

// TestPMatricesLeadToSolutions is promise 15; the solution is then the only one there is.
func TestPMatricesLeadToSolutions(t *testing.T) {
	looked := [6]int{}
	for i, p := range pProblems(t) {
		n := len(p.M)
		list, code := impl.SolutionsOf(p)
		if len(list) != 1 || code != impl.ErrNone {
			t.Fatalf("SolutionsOf(%v) = %v, %d", p, list, code)
		}
		for _, cover := range someCovers(n, int64(i)) {
			if steps, solved, code := impl.LemkeSteps(p, cover); !solved || code != impl.ErrNone {
				t.Errorf("LemkeSteps(%v, %v) = %v, %v, %d", p, cover, steps, solved, code)
			}
			if z, code := impl.LemkeSolution(p, cover); !slices.Equal(z, list[0]) || code != impl.ErrNone {
				t.Errorf("LemkeSolution(%v, %v) = %v, %d, want %v", p, cover, z, code, list[0])
			}
			if ray, code := impl.LemkeRay(p, cover); len(ray) != 0 || code != impl.ErrNotFound {
				t.Errorf("LemkeRay(%v, %v) = %v, %d", p, cover, ray, code)
			}
			if slices.Min(p.Q) < 0 {
				looked[n]++
			}
		}
		if n <= 4 {
			solutions, rays, code := impl.CountLemke(p, 2)
			if solutions != 1<<n || rays != 0 || code != impl.ErrNone {
				t.Errorf("CountLemke(%v, 2) = %d, %d, %d", p, solutions, rays, code)
			}
		}
	}
	if slices.Min(looked[1:]) < 100 {
		t.Errorf("only %v P matrices with steps", looked)
	}
}

func TestCountLemke(t *testing.T) {
	for _, c := range []struct {
		text                  string
		most, solutions, rays int64
		code                  int64
	}{
		{"2,1;1,2/-5,-6", 1, 1, 0, impl.ErrNone},
		{"2,1;1,2/-5,-6", 2, 4, 0, impl.ErrNone},
		{"2,1;1,2/-5,-6", 3, 9, 0, impl.ErrNone},
		{"-1/-1", 1, 0, 1, impl.ErrNone},
		{"-1/-1", 3, 0, 3, impl.ErrNone},
		// No step at all, also with the greatest size.
		{"-1/0", 3, 3, 0, impl.ErrNone},
		{"0,0,0;0,0,0;0,0,0/0,1,100", 3, 27, 0, impl.ErrNone},
		{"-1,0,0,0;0,-1,0,0;0,0,-1,0;0,0,0,-1/0,0,0,0", 3, 81, 0, impl.ErrNone},
		{"-1,0,0,0;0,-1,0,0;0,0,-1,0;0,0,0,-1/-1,-1,-1,-1", 3, 0, 81, impl.ErrNone},
		// Some covers lead to solutions, and others to rays.
		{"-1,-1;2,-1/1,-1", 1, 0, 1, impl.ErrNone},
		{"-1,-1;2,-1/1,-1", 2, 1, 3, impl.ErrNone},
		{"-1,-1;2,-1/1,-1", 3, 3, 6, impl.ErrNone},
		{"0,2;3,2/-4,-4", 3, 6, 3, impl.ErrNone},
		{"2,2,-3;3,-3,2;3,-3,-1/-4,-4,1", 2, 3, 5, impl.ErrNone},
		{"2,2,-3;3,-3,2;3,-3,-1/-4,-4,1", 3, 13, 14, impl.ErrNone},
		{"-2,-2,-1,3;2,1,-3,-2;-1,-3,3,2;0,-1,0,1/0,1,0,-2", 1, 1, 0, impl.ErrNone},
		{"-2,-2,-1,3;2,1,-3,-2;-1,-3,3,2;0,-1,0,1/0,1,0,-2", 2, 14, 2, impl.ErrNone},
		{"-2,-2,-1,3;2,1,-3,-2;-1,-3,3,2;0,-1,0,1/0,1,0,-2", 3, 63, 18, impl.ErrNone},
		// Numbers out of range, and the size 5.
		{"2,1;1,2/-5,-6", 0, 0, 0, impl.ErrRange},
		{"2,1;1,2/-5,-6", 4, 0, 0, impl.ErrRange},
		{"2,1;1,2/-5,-6", -1, 0, 0, impl.ErrRange},
		{"2,1;1,2/5,6", 0, 0, 0, impl.ErrRange},
		{"2,1;1,2/5,6", 1<<32 + 1, 0, 0, impl.ErrRange},
		{"2,1;1,2/5,6", leastInt, 0, 0, impl.ErrRange},
		{"2,1;1,2/5,6", greatestInt, 0, 0, impl.ErrRange},
		{greatRows + "/1,1,1,1,1", 1, 0, 0, impl.ErrRange},
		{greatRows + "/-1,1,1,1,1", 3, 0, 0, impl.ErrRange},
		{greatRows + "/1,1,1,1,1", 0, 0, 0, impl.ErrRange},
		{greatRows + "/1,1,1,1,1", 4, 0, 0, impl.ErrRange},
	} {
		solutions, rays, code := impl.CountLemke(mustParse(t, c.text), c.most)
		if solutions != c.solutions || rays != c.rays || code != c.code {
			t.Errorf("CountLemke(%q, %d) = %d, %d, %d", c.text, c.most, solutions, rays, code)
		}
	}
}

// allCovers returns the covers of a size with numbers of at most most.
func allCovers(n int, most int64) rows {
	list := rows{{}}
	for range n {
		longer := rows{}
		for _, cover := range list {
			for c := range most {
				longer = append(longer, append(slices.Clone(cover), c+1))
			}
		}
		list = longer
	}
	return list
}

// TestCountsAreOfAllCovers counts the covers one by one, for all sizes, also the refused one.
func TestCountsAreOfAllCovers(t *testing.T) {
	both := [6]int{}
	for _, p := range lemkeProblems(300) {
		for most := int64(1); most <= 3; most++ {
			ends, want := map[bool]int64{}, int64(impl.ErrNone)
			for _, cover := range allCovers(len(p.M), most) {
				_, solved, code := impl.LemkeSteps(p, cover)
				if code != impl.ErrNone {
					t.Fatalf("LemkeSteps(%v, %v): code %d", p, cover, code)
				}
				ends[solved]++
			}
			if ends[true] > 0 && ends[false] > 0 {
				both[len(p.M)]++
			}
			if len(p.M) > 4 {
				ends, want = nil, impl.ErrRange
			}
			solutions, rays, code := impl.CountLemke(p, most)
			if solutions != ends[true] || rays != ends[false] || code != want {
				t.Errorf("CountLemke(%v, %d) = %d, %d, %d, want %v", p, most, solutions, rays, code, ends)
			}
		}
	}
	if slices.Min(both[2:]) < 3 {
		t.Errorf("only %v problems with solutions and rays", both)
	}
}

// TestListsThatAreNoCovers has problems that would end at once, with a solution, and with a ray, and
// numbers of steps that are refused too.
func TestListsThatAreNoCovers(t *testing.T) {
	for _, text := range []string{"2,1;1,2/-5,-6", "2,1;1,2/5,6", "0,0;0,0/-1,-1"} {
		p := mustParse(t, text)
		for _, cover := range [][]int64{
			nil, {}, {1}, {1, 1, 1}, {1, 1, 1, 1, 1}, make([]int64, 200), {0, 1}, {1, 0}, {0, 0}, {-1, 1}, {1, -1},
			{impl.MaxEntry + 1, 1}, {1, impl.MaxEntry + 1}, {leastInt, 1}, {1, leastInt}, {greatestInt, 1}, {1, greatestInt},
			{1 << 32, 1}, {1, 1<<32 + 1}, {0}, {1, 1, 0},
		} {
			for _, k := range []int64{0, 1, 3, 4, -1, leastInt, greatestInt} {
				checkRefused(t, text, callLemke(p, cover, k), impl.ErrRange)
			}
		}
		// The limits themselves.
		for _, cover := range [][]int64{{1, impl.MaxEntry}, {impl.MaxEntry, 1}, {impl.MaxEntry, impl.MaxEntry}, {1, 1}} {
			checkRun(t, p, cover, exactLemke(p, cover))
		}
	}
	for n := 1; n <= impl.MaxSize; n++ {
		for _, right := range []int64{1, -1} {
			p := squareOf(n, right)
			for i := range n {
				cover := someCovers(n, 0)[0]
				for _, c := range []int64{0, impl.MaxEntry + 1} {
					cover[i] = c
					checkRefused(t, "a number that no cover has", callLemke(p, cover, 0), impl.ErrRange)
				}
			}
			checkRefused(t, "a cover too short", callLemke(p, someCovers(n-1, 0)[0], 0), impl.ErrRange)
			checkRefused(t, "a cover too long", callLemke(p, someCovers(n+1, 0)[0], 0), impl.ErrRange)
		}
	}
}

// TestLemkeOfInvalidProblems gives other arguments that are wrong too: ErrInvalid comes first.
func TestLemkeOfInvalidProblems(t *testing.T) {
	invalid := invalidProblems()
	invalid["size 70"] = squareOf(70, 1)
	for name, p := range invalid {
		for _, cover := range [][]int64{nil, {}, {1}, {1, 1}, {1, 1, 1}, {0, 1}, {1, 21}, {leastInt}, someCovers(len(p.M), 0)[0]} {
			for _, k := range []int64{0, 1, -1, leastInt, greatestInt} {
				checkRefused(t, name, callLemke(p, cover, k), impl.ErrInvalid)
			}
		}
		for _, most := range []int64{1, 3, 0, 4, leastInt, greatestInt} {
			checkRefused(t, name, callCount(p, most), impl.ErrInvalid)
		}
	}
}

// greatProblems returns the same problems at each call: with the greatest determinant there is, and
// with other numbers near the limits, so that fractions cannot be reduced much.
func greatProblems(count int) []problem {
	source := rand.New(rand.NewSource(16))
	list := []problem{}
	for i := range count {
		p := greatProblem()
		for r := range p.M {
			sign := 2*source.Int63n(2) - 1
			p.Q[r] = -100 + 200*(source.Int63n(5)/4)
			for c := range p.M {
				p.M[r][c] *= sign
				if i%4 > 0 {
					p.M[r][c] = (2*source.Int63n(2) - 1) * (impl.MaxEntry - source.Int63n(4))
				}
			}
			if i%4 > 0 {
				p.Q[r] += source.Int63n(10) * (1 - 2*max(p.Q[r]/100, 0))
			}
		}
		list = append(list, p)
	}
	return list
}

// TestLemkeOfGreatNumbers has numbers at the limits of problems and covers: fractions have numbers of
// tens of millions then. All stay within the limits of fractions, so that ErrLimit is never met: by
// Hadamard's bound, no determinant of columns of the equations is greater than 900000000.
func TestLemkeOfGreatNumbers(t *testing.T) {
	greatestNum, greatestDen := int64(0), int64(0)
	for i, p := range greatProblems(800) {
		cover := someCovers(5, int64(i))[i/4%4]
		want := exactLemke(p, cover)
		checkRun(t, p, cover, want)
		for _, x := range slices.Concat(append(want.rights, want.end)...) {
			greatestNum = max(greatestNum, new(big.Int).Abs(x.Num()).Int64())
			greatestDen = max(greatestDen, x.Denom().Int64())
		}
	}
	if greatestNum < 50000000 || greatestDen < 10000000 {
		t.Errorf("only numbers up to %d and %d", greatestNum, greatestDen)
	}
}

// TestLemkeCallsLeaveNothing: no argument is changed, and each call tells the same once more, also
// behind calls that end with errors.
func TestLemkeCallsLeaveNothing(t *testing.T) {
	for _, text := range []string{"1,2,0;0,1,2;2,0,1/-1,-1,-1", "-2,0,-2;-1,1,2;0,1,-1/-2,-2,-2", "1,2,0;0,1,2;2,0,1/1,1,1"} {
		p, same := guardedProblem(mustParse(t, text))
		cover, sameCover := guarded([]int64{2, 1, 2}, 44)
		call := func() []reply {
			list := []reply{}
			for k := int64(-1); k <= 6; k++ {
				list = append(append(list, callLemke(p, cover, k)...), callCount(p, k)...)
			}
			return list
		}
		first := call()
		callLemke(problem{}, nil, 0)
		callLemke(p, []int64{1, 0, 1}, 0)
		callLemke(mustParse(t, "2,1;1,2/-5,-6"), []int64{1, 1}, 2)
		if again := call(); !reflect.DeepEqual(first, again) {
			t.Errorf("results = %v, then %v", first, again)
		}
		if !same() || !sameCover() {
			t.Errorf("an argument has been changed")
		}
	}
}

// TestLemkeResultsAreNew writes into results, and looks at their neighbours, at the arguments and at
// the next results.
func TestLemkeResultsAreNew(t *testing.T) {
	const text = "2,1;1,2/-5,-6"
	p, cover := mustParse(t, text), []int64{1, 1}
	first, _, _ := impl.LemkeSteps(p, cover)
	second, _, _ := impl.LemkeSteps(p, cover)
	lists := append(slices.Clone(first), second...)
	for k := range int64(4) {
		basis, _ := impl.BasisAfter(p, cover, k)
		lists = append(lists, basis)
	}
	spoilRows(t, "steps and bases", lists)
	first[0] = nil
	z, _ := impl.LemkeSolution(p, cover)
	again, _ := impl.LemkeSolution(p, cover)
	ray, _ := impl.LemkeRay(mustParse(t, "-1/-1"), []int64{1})
	fracs := [][]frac{z, again, ray}
	for k := range int64(4) {
		right, _ := impl.RightAfter(p, cover, k)
		fracs = append(fracs, right)
	}
	spoilFracs(t, "solutions, rays and numbers on the right", fracs)
	if !reflect.DeepEqual(p, mustParse(t, text)) || !slices.Equal(cover, []int64{1, 1}) {
		t.Errorf("the arguments are now %v, %v", p, cover)
	}
	checkRun(t, p, cover, exactLemke(p, cover))
}
