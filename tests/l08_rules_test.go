package tests

import (
	"math/big"
	"reflect"
	"slices"
	"strconv"
	"strings"
	"testing"

	"loop.example/g01343/impl"
)

// endNames has the name of each end of runs at its number.
var endNames = [3]string{"solved", "stuck", "again"}

// exactRunner has the points of sets, each solved once, apart from the program.
type exactRunner struct {
	p      problem
	points map[int64][]*big.Rat
}

func exactRunnerOf(p problem) exactRunner {
	return exactRunner{p: p, points: map[int64][]*big.Rat{}}
}

// pointOf returns nil if the set is not basic.
func (e exactRunner) pointOf(s int64) []*big.Rat {
	if _, known := e.points[s]; !known {
		e.points[s] = exactPoint(e.p, s)
	}
	return e.points[s]
}

// negativesOf returns the places of the numbers less than 0.
func negativesOf(point []*big.Rat) []int {
	list := []int{}
	for i, x := range point {
		if x.Sign() < 0 {
			list = append(list, i)
		}
	}
	return list
}

// step returns the set behind a set, or false if there is none.
func (e exactRunner) step(s, rule int64) (int64, bool) {
	point := e.pointOf(s)
	below := negativesOf(point)
	if len(below) == 0 {
		return 0, false
	}
	exchanged := below
	switch rule {
	case 0:
		exchanged = below[:1]
	case 1:
		exchanged = below[len(below)-1:]
	case 2:
		least := below[0]
		for _, i := range below[1:] {
			if point[i].Cmp(point[least]) < 0 {
				least = i
			}
		}
		exchanged = []int{least}
	}
	for _, i := range exchanged {
		s ^= 1 << i
	}
	return s, true
}

// run returns the sets of a run, and how it ends.
func (e exactRunner) run(s, rule int64) ([]int64, int64) {
	sets, met := []int64{}, map[int64]bool{}
	for {
		sets = append(sets, s)
		if e.pointOf(s) == nil {
			return sets, impl.EndStuck
		}
		if met[s] {
			return sets, impl.EndAgain
		}
		next, ok := e.step(s, rule)
		if !ok {
			return sets, impl.EndSolved
		}
		met[s] = true
		s = next
	}
}

// withSigns returns a problem with the Q of the signs that a set tells.
func withSigns(p problem, signs int64) problem {
	result := problem{M: p.M}
	for i := range p.M {
		result.Q = append(result.Q, 1-2*(signs>>i&1))
	}
	return result
}

// exactWorst returns the greatest number of steps over all signs, and all sets whose signs need so many,
// and false if a run does not end with EndSolved.
func exactWorst(p problem, rule int64) (int64, []int64, bool) {
	most, worst := int64(-1), []int64{}
	for _, signs := range allSets(len(p.M)) {
		sets, end := exactRunnerOf(withSigns(p, signs)).run(0, rule)
		if end != impl.EndSolved {
			return 0, nil, false
		}
		steps := int64(len(sets) - 1)
		if steps > most {
			most, worst = steps, nil
		}
		if steps == most {
			worst = append(worst, signs)
		}
	}
	return most, worst, true
}

// identity has 1 on the diagonal, and these numbers on the right.
func identity(right ...int64) problem {
	p := squareOf(len(right), 0)
	for i := range p.M {
		p.M[i][i] = 1
	}
	p.Q = right
	return p
}

// ruleProblems returns the same problems at each call, of all sizes: with great numbers, with small ones,
// and with many zeros in points.
func ruleProblems(count int) []problem {
	return slices.Concat(someProblems(count), smallProblems(count), degenerateProblems(count))
}

// badRules are none.
func badRules() []int64 {
	return []int64{-1, -2, -4, 4, 5, 8, 64, 1 << 32, 1<<32 + 1, 1 << 62, leastInt, leastInt + 1, greatestInt}
}

// callAtSet calls all functions of chapter 8 that take a set.
func callAtSet(p problem, s, rule int64) []reply {
	next, a := impl.StepByRule(p, s, rule)
	sets, end, b := impl.RunByRule(p, s, rule)
	return []reply{
		{"StepByRule", []any{next}, next == 0, a},
		{"RunByRule", []any{sets, end}, len(sets) == 0 && end == 0, b},
	}
}

// callSolved calls those that need a run to end with EndSolved.
func callSolved(p problem, rule int64) []reply {
	z, a := impl.SolveByRule(p, rule)
	steps, b := impl.StepsByRule(p, rule)
	return []reply{
		{"SolveByRule", []any{z}, len(z) == 0, a},
		{"StepsByRule", []any{steps}, steps == 0, b},
	}
}

func callWorst(p problem, rule int64) []reply {
	most, signs, code := impl.WorstSigns(p, rule)
	return []reply{{"WorstSigns", []any{most, signs}, most == 0 && signs == 0, code}}
}

func callEnds(p problem, rule int64) []reply {
	counts, code := impl.CountEnds(p, rule)
	return []reply{{"CountEnds", []any{counts}, len(counts) == 0, code}}
}

// callRule calls all functions of chapter 8 that take a problem and a rule alone.
func callRule(p problem, rule int64) []reply {
	return slices.Concat(callSolved(p, rule), callWorst(p, rule), callEnds(p, rule))
}

func callMurty(n int64) []reply {
	p, code := impl.MurtyProblem(n)
	return []reply{{"MurtyProblem " + strconv.FormatInt(n, 10), []any{p}, isZeroProblem(p), code}}
}

func mustMurty(t *testing.T, n int64) problem {
	t.Helper()
	p, code := impl.MurtyProblem(n)
	if code != impl.ErrNone || !impl.IsProblem(p) || len(p.M) != int(n) {
		t.Fatalf("MurtyProblem(%d) = %v, %d", n, p, code)
	}
	return p
}

func TestEndConstants(t *testing.T) {
	if impl.EndSolved != 0 || impl.EndStuck != 1 || impl.EndAgain != 2 {
		t.Errorf("ends = %d, %d, %d", impl.EndSolved, impl.EndStuck, impl.EndAgain)
	}
}

func TestStepByRule(t *testing.T) {
	for _, c := range []struct {
		p    problem
		s    int64
		want [4]int64
	}{
		// One number: put into the set, or taken out of it.
		{mustParse(t, "1/-1"), 0, [4]int64{1, 1, 1, 1}},
		{mustParse(t, "20/-100"), 0, [4]int64{1, 1, 1, 1}},
		{mustParse(t, "0/-1"), 0, [4]int64{1, 1, 1, 1}},
		{mustParse(t, "1/1"), 1, [4]int64{0, 0, 0, 0}},
		{mustParse(t, "-1/-1"), 1, [4]int64{0, 0, 0, 0}},
		// The points of the sets of the problem of the document: -5, -6; then 5/2, -7/2; then -2, 3.
		{mustParse(t, "2,1;1,2/-5,-6"), 0, [4]int64{1, 2, 2, 3}},
		{mustParse(t, "2,1;1,2/-5,-6"), 1, [4]int64{3, 3, 3, 3}},
		{mustParse(t, "2,1;1,2/-5,-6"), 2, [4]int64{3, 3, 3, 3}},
		{mustParse(t, "2,1;1,2/-6,-5"), 0, [4]int64{1, 2, 1, 3}},
		// The empty set, with its point as Q: one, several and all are less than 0, and 0 is not.
		{mustParse(t, "1,0;0,1/0,-1"), 0, [4]int64{2, 2, 2, 2}},
		{mustParse(t, "1,0;0,1/-1,0"), 0, [4]int64{1, 1, 1, 1}},
		{identity(0, 0, -1, 0, 0), 0, [4]int64{4, 4, 4, 4}},
		{identity(-3, 5, -7, -8, 0), 0, [4]int64{1, 8, 8, 13}},
		{identity(0, -3, 0, -2, 100), 0, [4]int64{2, 8, 2, 10}},
		{identity(-5, -4, -3, -2, -1), 0, [4]int64{1, 16, 1, 31}},
		{identity(-1, -2, -3, -4, -5), 0, [4]int64{1, 16, 16, 31}},
		{identity(-1, -2, -100, -2, -1), 0, [4]int64{1, 16, 4, 31}},
		// Two numbers, or more, are the least of all: the least index of those, which may be no other rule's.
		{identity(-1, -1, -1, -1, -1), 0, [4]int64{1, 16, 1, 31}},
		{identity(-3, 5, -7, -7, 0), 0, [4]int64{1, 8, 4, 13}},
		{identity(-3, -9, -7, -9, -8), 0, [4]int64{1, 16, 2, 31}},
		{identity(7, -2, 7, -2, 7), 0, [4]int64{2, 8, 2, 10}},
		// The whole set: numbers of Q change their signs.
		{identity(3, -5, 7, 7, -1), 31, [4]int64{30, 23, 27, 18}},
		{identity(3, 5, 0, 7, 1), 31, [4]int64{30, 15, 23, 4}},
		{mustParse(t, "2,1;1,2/1,1"), 3, [4]int64{2, 1, 2, 0}},
		{mustParse(t, "2,1;1,2/1,2"), 3, [4]int64{1, 1, 1, 1}},
		// Fractions: neither Num nor Den alone tells the least one, and equal ones are equal in lowest terms.
		{mustParse(t, "2,0;0,3/1,1"), 3, [4]int64{2, 1, 2, 0}},
		{mustParse(t, "3,0;0,2/1,1"), 3, [4]int64{2, 1, 1, 0}},
		{mustParse(t, "3,0;0,7/2,4"), 3, [4]int64{2, 1, 2, 0}},
		{mustParse(t, "7,0;0,3/4,2"), 3, [4]int64{2, 1, 1, 0}},
		{mustParse(t, "2,0;0,4/1,2"), 3, [4]int64{2, 1, 2, 0}},
		{mustParse(t, "4,0;0,2/2,1"), 3, [4]int64{2, 1, 2, 0}},
		// A number 0 between others less than 0: -3, 0, -4.
		{mustParse(t, "1,0,1;1,1,-1;0,1,1/1,-4,4"), 6, [4]int64{7, 2, 2, 3}},
		// Behind the step the set is not basic; the step is told all the same.
		{mustParse(t, "1,1;1,1/-1,-1"), 0, [4]int64{1, 2, 1, 3}},
		{mustParse(t, "0,0;0,0/-1,-2"), 0, [4]int64{1, 2, 2, 3}},
	} {
		for rule, want := range c.want {
			if got, code := impl.StepByRule(c.p, c.s, int64(rule)); got != want || code != impl.ErrNone {
				t.Errorf("StepByRule(%v, %d, %d) = %d, %d, want %d", c.p, c.s, rule, got, code, want)
			}
		}
	}
}

func TestSetsWithoutStep(t *testing.T) {
	for _, c := range []struct {
		text    string
		s, code int64
	}{
		// No number less than 0, of the empty set, the whole one, and others; also with numbers 0.
		{"1/1", 0, impl.ErrNotFound},
		{"1/0", 0, impl.ErrNotFound},
		{"1/0", 1, impl.ErrNotFound},
		{"1/-1", 1, impl.ErrNotFound},
		{"-1/1", 1, impl.ErrNotFound},
		{"0/0", 0, impl.ErrNotFound},
		{"2,1;1,2/-5,-6", 3, impl.ErrNotFound},
		{"2,1;1,2/5,6", 0, impl.ErrNotFound},
		{"2,1;1,2/0,0", 2, impl.ErrNotFound},
		{"1,1;1,1/-1,-1", 1, impl.ErrNotFound},
		{"1,1;1,1/-1,-1", 2, impl.ErrNotFound},
		{"1,2,2;0,1,2;0,0,1/-1,-1,-1", 4, impl.ErrNotFound},
		// Not basic, whatever Q is.
		{"0/-1", 1, impl.ErrState},
		{"0/0", 1, impl.ErrState},
		{"0/1", 1, impl.ErrState},
		{"1,1;1,1/-1,-1", 3, impl.ErrState},
		{"1,1;1,1/1,1", 3, impl.ErrState},
		{"0,1;1,0/-1,-1", 1, impl.ErrState},
		{"0,1;1,0/-1,-1", 2, impl.ErrState},
		{"1,1,1;1,2,2;1,2,2/1,2,5", 7, impl.ErrState},
	} {
		for rule := range int64(4) {
			checkRefused(t, c.text+" at "+strconv.FormatInt(c.s, 10), callAtSet(mustParse(t, c.text), c.s, rule)[:1], c.code)
		}
	}
	ones := problem{M: squareOf(5, 1).M, Q: []int64{0, 0, 0, 0, 0}}
	for _, s := range allSets(5) {
		code := int64(impl.ErrState)
		if countOf(s) < 2 {
			code = impl.ErrNotFound
		}
		for rule := range int64(4) {
			checkRefused(t, "only numbers 1", callAtSet(ones, s, rule)[:1], code)
		}
	}
}

// TestStepsAgainstExactOnes has all sets; it counts points by how many numbers are less than 0, and those
// in which more than one is the least of all, or one is 0.
func TestStepsAgainstExactOnes(t *testing.T) {
	below, tied, zeros, stuck := [6][6]int{}, [6]int{}, [6]int{}, [6]int{}
	for _, p := range ruleProblems(250) {
		exact, n := exactRunnerOf(p), len(p.M)
		for _, s := range allSets(n) {
			for rule := range int64(4) {
				want, ok := exact.step(s, rule)
				code := int64(impl.ErrNone)
				if !ok {
					want, code = 0, impl.ErrNotFound
				}
				if exact.pointOf(s) == nil {
					code = impl.ErrState
				}
				if got, gotCode := impl.StepByRule(p, s, rule); got != want || gotCode != code {
					t.Fatalf("StepByRule(%v, %d, %d) = %d, %d, want %d, %d", p, s, rule, got, gotCode, want, code)
				}
			}
			point := exact.pointOf(s)
			if point == nil {
				stuck[n]++
				continue
			}
			negatives := negativesOf(point)
			below[n][len(negatives)]++
			if len(negatives) == 0 {
				continue
			}
			least, sames := slices.MinFunc(point, (*big.Rat).Cmp), 0
			for _, x := range point {
				if x.Cmp(least) == 0 {
					sames++
				}
			}
			if sames > 1 {
				tied[n]++
			}
			if slices.ContainsFunc(point, func(x *big.Rat) bool { return x.Sign() == 0 }) {
				zeros[n]++
			}
		}
	}
	for n := 1; n <= impl.MaxSize; n++ {
		if slices.Min(below[n][:n+1]) < 20 || stuck[n] < 20 || n > 1 && min(tied[n], zeros[n]) < 20 {
			t.Errorf("of the size %d only %v by numbers less than 0, %d tied, %d with 0, %d not basic", n, below[n], tied[n], zeros[n], stuck[n])
		}
	}
}

// runText tells a run in words.
func runText(sets []int64, end int64) string {
	words := []string{}
	for _, s := range sets {
		words = append(words, strconv.FormatInt(s, 10))
	}
	return strings.Join(words, ",") + " " + endNames[end]
}

// fourTimes is for runs that are the same by all rules.
func fourTimes(text string) [4]string {
	return [4]string{text, text, text, text}
}

func TestRunByRule(t *testing.T) {
	for _, c := range []struct {
		text string
		s    int64
		want [4]string
	}{
		// One set alone.
		{"1/1", 0, fourTimes("0 solved")},
		{"1/0", 0, fourTimes("0 solved")},
		{"1/0", 1, fourTimes("1 solved")},
		{"-1/1", 1, fourTimes("1 solved")},
		{"0/-1", 1, fourTimes("1 stuck")},
		{"0/0", 1, fourTimes("1 stuck")},
		{"0/1", 1, fourTimes("1 stuck")},
		{"2,1;1,2/-5,-6", 3, fourTimes("3 solved")},
		{"1,1;1,1/-1,-1", 3, fourTimes("3 stuck")},
		{"0,-1,1;1,-1,0;1,0,0/2,-2,2", 3, fourTimes("3 solved")},
		{"0,-1,1;1,-1,0;1,0,0/2,-2,2", 1, fourTimes("1 stuck")},
		// One number.
		{"1/-1", 0, fourTimes("0,1 solved")},
		{"1/1", 1, fourTimes("1,0 solved")},
		{"0/-1", 0, fourTimes("0,1 stuck")},
		{"-1/-1", 0, fourTimes("0,1,0 again")},
		{"-1/-1", 1, fourTimes("1,0,1 again")},
		{"-20/-100", 1, fourTimes("1,0,1 again")},
		// To a feasible set.
		{"2,1;1,2/-5,-6", 0, [4]string{"0,1,3 solved", "0,2,3 solved", "0,2,3 solved", "0,3 solved"}},
		{"2,1;1,2/-5,-6", 1, fourTimes("1,3 solved")},
		{"2,1;1,2/-5,-6", 2, fourTimes("2,3 solved")},
		{"2,1;1,2/1,1", 3, [4]string{"3,2,0 solved", "3,1,0 solved", "3,2,0 solved", "3,0 solved"}},
		{"1,1;0,1/-1,-2", 0, [4]string{"0,1,3,2 solved", "0,2 solved", "0,2 solved", "0,3,2 solved"}},
		{"1,0,1;1,1,-1;0,1,1/1,-4,4", 6, [4]string{"6,7,5,1,0,2 solved", "6,2 solved", "6,2 solved", "6,3,2 solved"}},
		{"1,2,0;0,1,2;2,0,1/-1,-1,-1", 0, [4]string{"0,1,3,2,6,7 solved", "0,4,5,1,3,7 solved", "0,1,3,7 solved", "0,7 solved"}},
		{"1,2,2;0,1,2;0,0,1/-1,-1,-1", 0, [4]string{"0,1,3,2,6,7,5,4 solved", "0,4 solved", "0,1,3,2,6,7,5,4 solved", "0,7,5,4 solved"}},
		// To a set that is not basic, at the first step and behind it, and behind all other sets.
		{"1,1;1,1/-1,-1", 0, [4]string{"0,1 solved", "0,2 solved", "0,1 solved", "0,3 stuck"}},
		{"0,1;1,-1/1,-2", 0, [4]string{"0,2,3,1 stuck", "0,2,0 again", "0,2,0 again", "0,2,1 stuck"}},
		{"1,1;-1,0/-2,-2", 0, [4]string{"0,1,3,2 stuck", "0,2 stuck", "0,1,3,2 stuck", "0,3,2 stuck"}},
		{"1,1,-1;1,1,1;-1,0,-1/1,4,3", 7, [4]string{"7,5 solved", "7,3 stuck", "7,5 solved", "7,1,0 solved"}},
		{"0,-1,1;1,-1,0;-1,-1,-1/-2,4,-1", 2, [4]string{"2,3,2 again", "2,6,2 again", "2,3,2 again", "2,7,6,3,0,5,4,1 stuck"}},
		// To the first set again, also through all sets.
		{"1,-1;0,-1/-3,-4", 0, [4]string{"0,1,3,2,0 again", "0,2,0 again", "0,2,0 again", "0,3,0 again"}},
		{"1,-1,1;1,1,-1;-1,-1,0/-2,3,-4", 0, [4]string{"0,1,5,4 stuck", "0,4 stuck", "0,4 stuck", "0,5,6,0 again"}},
		{"-1,0,1;-1,-1,0;0,1,-1/-3,-2,-1", 0, [4]string{"0,1,0 again", "0,4,0 again", "0,1,0 again", "0,7,6,1,4,3,2,5,0 again"}},
		// To a later set again: the second one, the third one, and the last but one before.
		{"0,-1;-1,-1/2,-4", 3, fourTimes("3,2,0,2 again")},
		{"1,-1;0,-1/-3,-4", 1, [4]string{"1,3,2,0,1 again", "1,3,1 again", "1,3,1 again", "1,3,0,3 again"}},
		{"1,1;0,-1/1,-1", 3, [4]string{"3,1,0,2,0 again", "3,1,3 again", "3,1,0,2,0 again", "3,1,2,0,2 again"}},
		{"-1,0;-1,1/-3,-3", 1, [4]string{"1,0,1 again", "1,0,2,3,2 again", "1,0,1 again", "1,0,3,2,3 again"}},
		{"-1,0,1;1,1,1;1,-1,1/-4,-1,4", 4, [4]string{"4,5,4 again", "4,0,2,3,7,6,2 again", "4,5,7,6,7 again", "4,3,6,3 again"}},
	} {
		for rule, want := range c.want {
			sets, end, code := impl.RunByRule(mustParse(t, c.text), c.s, int64(rule))
			if code != impl.ErrNone || end < 0 || end > 2 || runText(sets, end) != want {
				t.Errorf("RunByRule(%s, %d, %d) = %v, %d, %d, want %s", c.text, c.s, rule, sets, end, code, want)
			}
		}
	}
}

// TestRunsAgainstExactOnes has runs from all sets, and counts how they end, by rules.
func TestRunsAgainstExactOnes(t *testing.T) {
	kinds := [4]map[string]int{{}, {}, {}, {}}
	sizes := [6][3]int{}
	for _, p := range ruleProblems(250) {
		exact, n := exactRunnerOf(p), len(p.M)
		for _, s := range allSets(n) {
			for rule := range int64(4) {
				want, wantEnd := exact.run(s, rule)
				sets, end, code := impl.RunByRule(p, s, rule)
				if !slices.Equal(sets, want) || end != wantEnd || code != impl.ErrNone {
					t.Fatalf("RunByRule(%v, %d, %d) = %v, %d, %d, want %v, %d", p, s, rule, sets, end, code, want, wantEnd)
				}
				kinds[rule][kindOfRun(sets, end)]++
				sizes[n][end]++
			}
		}
	}
	for rule, counts := range kinds {
		for _, kind := range []string{"solved at once", "solved at the first step", "solved behind it", "stuck at once", "stuck at the first step", "stuck behind it", "again at the first set", "again at a later one"} {
			if counts[kind] < 100 {
				t.Errorf("only %d runs by the rule %d are %s", counts[kind], rule, kind)
			}
		}
	}
	for n := 1; n <= impl.MaxSize; n++ {
		if slices.Min(sizes[n][:]) < 50 {
			t.Errorf("only %v by ends, of the size %d", sizes[n], n)
		}
	}
}

func kindOfRun(sets []int64, end int64) string {
	name := endNames[end]
	last := len(sets) - 1
	switch {
	case end == impl.EndAgain && sets[last] == sets[0]:
		return name + " at the first set"
	case end == impl.EndAgain:
		return name + " at a later one"
	case last == 0:
		return name + " at once"
	case last == 1:
		return name + " at the first step"
	default:
		return name + " behind it"
	}
}

// TestRunsEnd is promise 8 for runs: they end at feasible sets, at sets that are not basic, or where they
// were, by what chapters 1 and 2 tell. All others have been met once, and have a step to the next one. (A
// set that is met again is basic, and is not feasible: the run would have ended there before.)
func TestRunsEnd(t *testing.T) {
	ends := [4][3]int{}
	for _, p := range append(ruleProblems(200), pProblems(t)...) {
		feasible, _ := impl.FeasibleSets(p)
		basic, _ := impl.BasicSets(p)
		for _, s := range allSets(len(p.M)) {
			for rule := range int64(4) {
				sets, end, code := impl.RunByRule(p, s, rule)
				if len(sets) == 0 || sets[0] != s || code != impl.ErrNone {
					t.Fatalf("RunByRule(%v, %d, %d) = %v, %d, %d", p, s, rule, sets, end, code)
				}
				last := len(sets) - 1
				first := slices.Index(sets, sets[last])
				isFeasible, isBasic := slices.Contains(feasible, sets[last]), slices.Contains(basic, sets[last])
				want := [3]bool{isFeasible && isBasic && first == last, !isBasic && !isFeasible && first == last, isBasic && !isFeasible && first < last}
				if !want[end] {
					t.Errorf("RunByRule(%v, %d, %d) = %v, %d: feasible %v, basic %v, first met at %d", p, s, rule, sets, end, isFeasible, isBasic, first)
				}
				for k, from := range sets[:last] {
					next, code := impl.StepByRule(p, from, rule)
					if next != sets[k+1] || code != impl.ErrNone || slices.Index(sets, from) != k {
						t.Errorf("RunByRule(%v, %d, %d) = %v: the step from %d is %d, %d", p, s, rule, sets, from, next, code)
					}
				}
				ends[rule][end]++
			}
		}
	}
	for rule, counts := range ends {
		if slices.Min(counts[:]) < 1000 {
			t.Errorf("only %v by ends, by the rule %d", counts, rule)
		}
	}
}

// TestLastSetsHaveNoStep: where a run ends, StepByRule tells why, and where it was it goes on.
func TestLastSetsHaveNoStep(t *testing.T) {
	codes := [3]int64{impl.EndSolved: impl.ErrNotFound, impl.EndStuck: impl.ErrState, impl.EndAgain: impl.ErrNone}
	for _, p := range ruleProblems(100) {
		for _, s := range allSets(len(p.M)) {
			for rule := range int64(4) {
				sets, end, _ := impl.RunByRule(p, s, rule)
				last := sets[len(sets)-1]
				next, code := impl.StepByRule(p, last, rule)
				if code != codes[end] {
					t.Errorf("StepByRule(%v, %d, %d) = %d, %d, but the run %v ends with %d", p, last, rule, next, code, sets, end)
				}
				if end == impl.EndAgain && next != sets[slices.Index(sets, last)+1] {
					t.Errorf("StepByRule(%v, %d, %d) = %d, %d, but the run is %v", p, last, rule, next, code, sets)
				}
			}
		}
	}
}

// TestRunsOfPMatrices: by the rules 0 and 1 all runs come to the one feasible solution there is, as Murty
// showed. Where there is an orientation (chapter 6), runs are walks along it.
func TestRunsOfPMatrices(t *testing.T) {
	walks, again := 0, 0
	for _, p := range pProblems(t) {
		c, code := impl.CubeOfProblem(p)
		for _, s := range allSets(len(p.M)) {
			for rule := range int64(4) {
				sets, end, _ := impl.RunByRule(p, s, rule)
				if rule < 2 && end != impl.EndSolved {
					t.Errorf("RunByRule(%v, %d, %d) = %v, %d, of a P matrix", p, s, rule, sets, end)
				}
				if end == impl.EndAgain {
					again++
				}
				if code != impl.ErrNone || rule == 2 {
					continue
				}
				walks++
				walkRule := min(rule, 2)
				if walk, code := impl.WalkByRule(c, s, walkRule); !slices.Equal(walk, sets) || code != impl.ErrNone {
					t.Errorf("WalkByRule(%v, %d, %d) = %v, %d, but the run of %v is %v", c, s, walkRule, walk, code, p, sets)
				}
			}
		}
		for rule := range int64(2) {
			if counts, code := impl.CountEnds(p, rule); !slices.Equal(counts, []int64{1 << len(p.M), 0, 0}) || code != impl.ErrNone {
				t.Errorf("CountEnds(%v, %d) = %v, %d, of a P matrix", p, rule, counts, code)
			}
		}
	}
	if walks < 5000 || again < 5 {
		t.Errorf("only %d walks, and %d runs that end where they were", walks, again)
	}
}

func TestSolutionsAndStepsByRule(t *testing.T) {
	for _, c := range []struct {
		text string
		// The solution by each rule, and the number of steps; nothing if there is none.
		want [4]string
	}{
		// At once: z is 0 for what is not in the empty set.
		{"1/1", fourTimes("0 in 0")},
		{"1/0", fourTimes("0 in 0")},
		{"0/100", fourTimes("0 in 0")},
		{"-20,0;0,-20/100,0", fourTimes("0 0 in 0")},
		{"1,2,2;0,1,2;0,0,1/1,2,3", fourTimes("0 0 0 in 0")},
		// Behind steps.
		{"1/-1", fourTimes("1 in 1")},
		{"20/-100", fourTimes("5 in 1")},
		{"7/-5", fourTimes("5/7 in 1")},
		{"2,1;1,2/-5,-6", [4]string{"4/3 7/3 in 2", "4/3 7/3 in 2", "4/3 7/3 in 2", "4/3 7/3 in 1"}},
		{"1,1;0,1/-1,-2", [4]string{"0 2 in 3", "0 2 in 1", "0 2 in 1", "0 2 in 2"}},
		{"1,2,0;0,1,2;2,0,1/-1,-1,-1", [4]string{"1/3 1/3 1/3 in 5", "1/3 1/3 1/3 in 5", "1/3 1/3 1/3 in 3", "1/3 1/3 1/3 in 1"}},
		{"1,2,2;0,1,2;0,0,1/-1,-1,-1", [4]string{"0 0 1 in 7", "0 0 1 in 1", "0 0 1 in 7", "0 0 1 in 3"}},
		// 0 for what is not in the set, where the point has other numbers.
		{"2,1;1,2/-5,3", fourTimes("5/2 0 in 1")},
		{"2,1;1,2/7,-5", fourTimes("0 5/2 in 1")},
		{"1,0,0;0,1,0;0,0,1/5,-6,7", fourTimes("0 6 0 in 1")},
		// Other solutions by other rules, or none by some of them.
		{"1,1;1,1/-1,-1", [4]string{"1 0 in 1", "0 1 in 1", "1 0 in 1", ""}},
		{"0,1;1,1/-1,-1", [4]string{"", "0 1 in 1", "", "0 1 in 1"}},
		// None: the run is stuck, or goes on where it was.
		{"0/-1", fourTimes("")},
		{"-1/-1", fourTimes("")},
		{"-20/-100", fourTimes("")},
		{"0,1;1,-1/1,-2", fourTimes("")},
		{"1,1;-1,0/-2,-2", fourTimes("")},
		{"1,-1;0,-1/-3,-4", fourTimes("")},
		{"-1,0,1;-1,-1,0;0,1,-1/-3,-2,-1", fourTimes("")},
	} {
		p := mustParse(t, c.text)
		for rule, want := range c.want {
			if want == "" {
				checkRefused(t, c.text, callSolved(p, int64(rule)), impl.ErrNotFound)
				continue
			}
			z, a := impl.SolveByRule(p, int64(rule))
			steps, b := impl.StepsByRule(p, int64(rule))
			if got := textsOf(t, z) + " in " + strconv.FormatInt(steps, 10); got != want || a != impl.ErrNone || b != impl.ErrNone {
				t.Errorf("SolveByRule, StepsByRule(%s, %d) = %s, %d, %d, want %s", c.text, rule, got, a, b, want)
			}
		}
	}
}

// checkSolved looks at a solution by a rule, and at the number of steps, and tells how the run ends.
func checkSolved(t *testing.T, exact exactRunner, rule int64) int64 {
	t.Helper()
	p := exact.p
	sets, end := exact.run(0, rule)
	if end != impl.EndSolved {
		checkRefused(t, "a run that ends with "+endNames[end], callSolved(p, rule), impl.ErrNotFound)
		return end
	}
	last := sets[len(sets)-1]
	want := zerosOf(len(p.M))
	for i, x := range exact.pointOf(last) {
		if last>>i&1 == 1 {
			want[i] = x
		}
	}
	z, a := impl.SolveByRule(p, rule)
	steps, b := impl.StepsByRule(p, rule)
	if !sameFracs(z, want) || steps != int64(len(sets)-1) || a != impl.ErrNone || b != impl.ErrNone {
		t.Errorf("SolveByRule, StepsByRule(%v, %d) = %v, %d, %d, %d, want %v after %v", p, rule, z, steps, a, b, want, sets)
	}
	return end
}

func TestSolutionsByRulesAgainstExactOnes(t *testing.T) {
	ends := [6][3]int{}
	for _, p := range append(ruleProblems(500), pProblems(t)...) {
		exact := exactRunnerOf(p)
		for rule := range int64(4) {
			ends[len(p.M)][checkSolved(t, exact, rule)]++
		}
	}
	for n := 1; n <= impl.MaxSize; n++ {
		if slices.Min(ends[n][:]) < 30 {
			t.Errorf("only %v by ends, of the size %d", ends[n], n)
		}
	}
}

// TestSolutionsByRulesAreSolutions is promise 14; they are among those of chapter 2.
func TestSolutionsByRulesAreSolutions(t *testing.T) {
	found := [6]int{}
	for _, p := range append(ruleProblems(600), pProblems(t)...) {
		list, _ := impl.SolutionsOf(p)
		for rule := range int64(4) {
			z, code := impl.SolveByRule(p, rule)
			if code == impl.ErrNotFound {
				continue
			}
			checkSolution(t, "SolveByRule", p, z, code)
			if !slices.ContainsFunc(list, func(other []frac) bool { return slices.Equal(other, z) }) {
				t.Errorf("SolveByRule(%v, %d) = %v, but all solutions are %v", p, rule, z, list)
			}
			if slices.Min(p.Q) < 0 {
				found[len(p.M)]++
			}
		}
	}
	if slices.Min(found[1:]) < 150 {
		t.Errorf("only %v solutions behind steps", found)
	}
}

func TestWorstSigns(t *testing.T) {
	none := [2]int64{-1, -1}
	for _, c := range []struct {
		m    string
		want [4][2]int64
	}{
		{"1", [4][2]int64{{1, 1}, {1, 1}, {1, 1}, {1, 1}}},
		{"2,1;1,2", [4][2]int64{{2, 3}, {2, 3}, {2, 3}, {1, 1}}},
		{"1,-1;1,1", [4][2]int64{{1, 1}, {2, 3}, {1, 1}, {1, 1}}},
		{"1,0,0;0,1,0;0,0,1", [4][2]int64{{3, 7}, {3, 7}, {3, 7}, {1, 1}}},
		{"1,0,0,0,0;0,1,0,0,0;0,0,1,0,0;0,0,0,1,0;0,0,0,0,1", [4][2]int64{{5, 31}, {5, 31}, {5, 31}, {1, 1}}},
		// Several sets need so many: the least one, which is neither the first one with a step nor the last one.
		{"1,2,0;0,1,2;2,0,1", [4][2]int64{{5, 6}, {5, 7}, {5, 6}, {3, 3}}},
		{"3,1,1;0,2,-1;0,-1,1", [4][2]int64{{4, 7}, {2, 3}, {4, 7}, {2, 7}}},
		// Those of the problems of Murty, and turned around.
		{"1,2;0,1", [4][2]int64{{3, 3}, {1, 1}, {3, 3}, {2, 3}}},
		{"1,2,2;0,1,2;0,0,1", [4][2]int64{{7, 7}, {1, 1}, {7, 7}, {3, 7}}},
		{"1,2,2,2;0,1,2,2;0,0,1,2;0,0,0,1", [4][2]int64{{15, 15}, {1, 1}, {15, 15}, {4, 15}}},
		{"1,2,2,2,2;0,1,2,2,2;0,0,1,2,2;0,0,0,1,2;0,0,0,0,1", [4][2]int64{{31, 31}, {1, 1}, {31, 31}, {5, 31}}},
		{"1,0,0;2,1,0;2,2,1", [4][2]int64{{1, 1}, {7, 7}, {1, 1}, {3, 7}}},
		// The run of some signs ends otherwise: of all but the empty set, of the last one alone, by one rule
		// alone, at the first step or behind it, stuck or where it was.
		{"0", [4][2]int64{none, none, none, none}},
		{"-1", [4][2]int64{none, none, none, none}},
		{"1,1;1,1", [4][2]int64{{1, 1}, {1, 1}, {1, 1}, none}},
		{"0,1;1,1", [4][2]int64{none, none, none, none}},
		{"1,-1;-1,1", [4][2]int64{none, none, none, none}},
		{"1,0;-1,0", [4][2]int64{none, none, none, none}},
		{"1,-2;-2,1", [4][2]int64{none, none, none, none}},
		{"1,1,-1;1,1,1;-1,0,-1", [4][2]int64{none, none, none, none}},
	} {
		m := rowsOf(c.m)
		// The numbers on the right are not used, whatever the run with them would be.
		for _, right := range []int64{0, 1, -1, 100, -100} {
			p := problem{M: m, Q: squareOf(len(m), right).Q}
			for rule, want := range c.want {
				if want == none {
					checkRefused(t, c.m, callWorst(p, int64(rule)), impl.ErrNotFound)
					continue
				}
				if most, signs, code := impl.WorstSigns(p, int64(rule)); most != want[0] || signs != want[1] || code != impl.ErrNone {
					t.Errorf("WorstSigns(%v, %d) = %d, %d, %d, want %v", p, rule, most, signs, code, want)
				}
			}
		}
	}
}

func TestWorstSignsAgainstExactOnes(t *testing.T) {
	tied, alone, none := [4]int{}, [4]int{}, [4]int{}
	for _, p := range append(ruleProblems(120), pProblems(t)...) {
		for rule := range int64(4) {
			most, worst, ok := exactWorst(p, rule)
			if !ok {
				none[rule]++
				checkRefused(t, "signs that do not end with EndSolved", callWorst(p, rule), impl.ErrNotFound)
				continue
			}
			got, signs, code := impl.WorstSigns(p, rule)
			if got != most || signs != worst[0] || code != impl.ErrNone {
				t.Errorf("WorstSigns(%v, %d) = %d, %d, %d, want %d, %v", p, rule, got, signs, code, most, worst)
			}
			if steps, code := impl.StepsByRule(withSigns(p, signs), rule); steps != got || code != impl.ErrNone {
				t.Errorf("WorstSigns(%v, %d) = %d, %d, but it takes %d steps, %d", p, rule, got, signs, steps, code)
			}
			if len(worst) > 1 && most > 1 {
				tied[rule]++
			} else {
				alone[rule]++
			}
		}
	}
	if min(slices.Min(tied[:]), slices.Min(alone[:]), slices.Min(none[:])) < 30 {
		t.Errorf("only %v with several sets, %v with one, %v with none, by rules", tied, alone, none)
	}
}

func TestMurtyProblem(t *testing.T) {
	for n, want := range []string{
		1: "1/-1",
		2: "1,2;0,1/-1,-1",
		3: "1,2,2;0,1,2;0,0,1/-1,-1,-1",
		4: "1,2,2,2;0,1,2,2;0,0,1,2;0,0,0,1/-1,-1,-1,-1",
		5: "1,2,2,2,2;0,1,2,2,2;0,0,1,2,2;0,0,0,1,2;0,0,0,0,1/-1,-1,-1,-1,-1",
	} {
		if n == 0 {
			continue
		}
		if p := mustMurty(t, int64(n)); !sameProblems(p, mustParse(t, want)) {
			t.Errorf("MurtyProblem(%d) = %v, want %s", n, p, want)
		}
	}
	for _, n := range []int64{0, 6, 7, -1, -2, -5, 64, 1 << 32, 1<<32 + 1, 1<<32 + 5, 1<<62 + 3, leastInt, leastInt + 1, greatestInt} {
		checkRefused(t, "no size", callMurty(n), impl.ErrRange)
	}
}

// TestMurtyNeedsAllSteps is promise 8 for problems of Murty: by the rule 0 the run from the empty set has
// all sets.
func TestMurtyNeedsAllSteps(t *testing.T) {
	for n := int64(1); n <= impl.MaxSize; n++ {
		p := mustMurty(t, n)
		if steps, code := impl.StepsByRule(p, 0); steps != 1<<n-1 || code != impl.ErrNone {
			t.Errorf("StepsByRule(MurtyProblem(%d), 0) = %d, %d", n, steps, code)
		}
		sets, end, code := impl.RunByRule(p, 0, 0)
		met := slices.Sorted(slices.Values(sets))
		if !slices.Equal(met, allSets(int(n))) || sets[0] != 0 || sets[len(sets)-1] != 1<<(n-1) || end != impl.EndSolved || code != impl.ErrNone {
			t.Errorf("RunByRule(MurtyProblem(%d), 0, 0) = %v, %d, %d", n, sets, end, code)
		}
		last := make([]int64, n)
		last[n-1] = 1
		for rule := range int64(4) {
			if z, code := impl.SolveByRule(p, rule); !slices.Equal(z, wholes(last...)) || code != impl.ErrNone {
				t.Errorf("SolveByRule(MurtyProblem(%d), %d) = %v, %d", n, rule, z, code)
			}
		}
		// By the rule 1 one step is enough, and all at once take n.
		if steps, code := impl.StepsByRule(p, 1); steps != 1 || code != impl.ErrNone {
			t.Errorf("StepsByRule(MurtyProblem(%d), 1) = %d, %d", n, steps, code)
		}
		if steps, code := impl.StepsByRule(p, 3); steps != n || code != impl.ErrNone {
			t.Errorf("StepsByRule(MurtyProblem(%d), 3) = %d, %d", n, steps, code)
		}
		if most, signs, code := impl.WorstSigns(p, 0); most != 1<<n-1 || signs != 1<<n-1 || code != impl.ErrNone {
			t.Errorf("WorstSigns(MurtyProblem(%d), 0) = %d, %d, %d", n, most, signs, code)
		}
	}
}

func TestCountEnds(t *testing.T) {
	for _, c := range []struct {
		text string
		want string
	}{
		{"1/-1", "2,0,0;2,0,0;2,0,0;2,0,0"},
		{"1/0", "2,0,0;2,0,0;2,0,0;2,0,0"},
		{"-1/1", "2,0,0;2,0,0;2,0,0;2,0,0"},
		{"-1/-1", "0,0,2;0,0,2;0,0,2;0,0,2"},
		{"0/1", "1,1,0;1,1,0;1,1,0;1,1,0"},
		{"0/-1", "0,2,0;0,2,0;0,2,0;0,2,0"},
		{"2,1;1,2/-5,-6", "4,0,0;4,0,0;4,0,0;4,0,0"},
		{"1,0;-1,0/3,-1", "0,4,0;0,4,0;0,4,0;0,4,0"},
		{"1,1;1,1/0,1", "2,2,0;3,1,0;2,2,0;3,1,0"},
		{"-1,1;1,-1/3,-1", "1,1,2;1,1,2;1,1,2;1,1,2"},
		// Runs of all three ends, and each number is another one by some other rule.
		{"0,-1,1;1,-1,0;1,0,0/2,-2,2", "1,5,2;2,4,2;3,3,2;1,3,4"},
		{"-1,0,0;1,-1,1;1,1,0/3,-1,2", "2,4,2;3,2,3;3,3,2;3,2,3"},
		{"1,1,0;1,0,0;-1,1,-1/-2,-1,0", "2,2,4;2,4,2;2,2,4;4,2,2"},
		{"1,-1,1;0,-1,-1;1,-1,0/3,3,0", "5,1,2;3,1,4;5,1,2;3,3,2"},
		{"1,2,2,2,2;0,1,2,2,2;0,0,1,2,2;0,0,0,1,2;0,0,0,0,1/-1,-1,-1,-1,-1", "32,0,0;32,0,0;32,0,0;32,0,0"},
		{"1,1,1,1,1;1,1,1,1,1;1,1,1,1,1;1,1,1,1,1;1,1,1,1,1/1,1,1,1,1", "6,26,0;6,26,0;6,26,0;6,26,0"},
	} {
		p := mustParse(t, c.text)
		for rule, want := range rowsOf(c.want) {
			if got, code := impl.CountEnds(p, int64(rule)); !slices.Equal(got, want) || code != impl.ErrNone {
				t.Errorf("CountEnds(%s, %d) = %v, %d, want %v", c.text, rule, got, code, want)
			}
		}
	}
}

// TestEndsOfAllSets: each set is counted once, by the end of its run.
func TestEndsOfAllSets(t *testing.T) {
	all := [6]int{}
	for _, p := range ruleProblems(250) {
		exact, n := exactRunnerOf(p), len(p.M)
		for rule := range int64(4) {
			want := []int64{0, 0, 0}
			for _, s := range allSets(n) {
				_, end := exact.run(s, rule)
				want[end]++
			}
			got, code := impl.CountEnds(p, rule)
			if !slices.Equal(got, want) || code != impl.ErrNone || got[0]+got[1]+got[2] != 1<<n {
				t.Errorf("CountEnds(%v, %d) = %v, %d, want %v", p, rule, got, code, want)
			}
			if slices.Min(want) > 0 {
				all[n]++
			}
		}
	}
	// A problem of one number has not three sets.
	if slices.Min(all[2:]) < 5 {
		t.Errorf("only %v problems with runs of all ends", all)
	}
}

// TestRulesOfInvalidProblems gives other arguments that are wrong too: ErrInvalid comes first.
func TestRulesOfInvalidProblems(t *testing.T) {
	invalid := invalidProblems()
	invalid["size 70"] = squareOf(70, 1)
	for name, p := range invalid {
		for _, rule := range append([]int64{0, 1, 2, 3}, badRules()...) {
			checkRefused(t, name, callRule(p, rule), impl.ErrInvalid)
			for _, s := range []int64{0, 1, 3, 31, 32, -1, 64, leastInt, greatestInt} {
				checkRefused(t, name, callAtSet(p, s, rule), impl.ErrInvalid)
			}
		}
	}
}

// TestRulesOutOfRange has sets and rules that are none, also where another error would come behind: the
// set is not basic, or there is no step, or the run does not end with EndSolved.
func TestRulesOutOfRange(t *testing.T) {
	for n := 1; n <= impl.MaxSize; n++ {
		whole := int64(1)<<n - 1
		for _, p := range []problem{squareOf(n, 1), squareOf(n, 0), squareOf(n, -1), mustMurty(t, int64(n))} {
			for _, rule := range badRules() {
				checkRefused(t, "no rule", callRule(p, rule), impl.ErrRange)
				for _, s := range []int64{0, whole, -1, whole + 1} {
					checkRefused(t, "no rule at a set", callAtSet(p, s, rule), impl.ErrRange)
				}
			}
			for _, s := range []int64{-1, -2, whole + 1, whole + 2, 64, 1 << 32, 1 << 62, leastInt, leastInt + 1, greatestInt} {
				for rule := range int64(4) {
					checkRefused(t, "no set", callAtSet(p, s, rule), impl.ErrRange)
				}
			}
		}
	}
}

// TestRulesOfGreatNumbers has points at the limits: fractions have numbers of millions then. All stay within
// the limits of fractions, so that ErrLimit is never met: by Hadamard's bound, no determinant of columns
// with a column of Q is greater than 900000000.
func TestRulesOfGreatNumbers(t *testing.T) {
	ends, greatestNum, greatestDen := [3]int{}, int64(0), int64(0)
	for _, p := range greatProblems(400) {
		exact := exactRunnerOf(p)
		for rule := range int64(4) {
			ends[checkSolved(t, exact, rule)]++
			for _, s := range allSets(len(p.M)) {
				want, wantEnd := exact.run(s, rule)
				if sets, end, code := impl.RunByRule(p, s, rule); !slices.Equal(sets, want) || end != wantEnd || code != impl.ErrNone {
					t.Errorf("RunByRule(%v, %d, %d) = %v, %d, %d, want %v, %d", p, s, rule, sets, end, code, want, wantEnd)
				}
			}
		}
		for _, point := range exact.points {
			for _, x := range point {
				greatestNum = max(greatestNum, new(big.Int).Abs(x.Num()).Int64())
				greatestDen = max(greatestDen, x.Denom().Int64())
			}
		}
	}
	if min(ends[impl.EndSolved], ends[impl.EndAgain]) < 100 || greatestNum < 50000000 || greatestDen < 10000000 {
		t.Errorf("only %v by ends, and numbers up to %d and %d", ends, greatestNum, greatestDen)
	}
}

// callRules calls all functions of chapter 8, also with numbers out of range.
func callRules(p problem) []reply {
	list := []reply{}
	for k := int64(-1); k <= 8; k++ {
		list = append(list, callMurty(k)...)
		list = append(list, callRule(p, k)...)
		for rule := int64(-1); rule <= 4; rule++ {
			list = append(list, callAtSet(p, k, rule)...)
		}
	}
	return list
}

// TestRuleCallsLeaveNothing: no argument is changed, and each call tells the same once more, also behind
// calls that end with errors.
func TestRuleCallsLeaveNothing(t *testing.T) {
	for _, text := range []string{"1,2,0;0,1,2;2,0,1/-1,-1,-1", "0,-1,1;1,-1,0;1,0,0/2,-2,2", "-1,0,1;1,1,1;1,-1,1/-4,-1,4", "1,1;1,1/-1,-1"} {
		p, same := guardedProblem(mustParse(t, text))
		first := callRules(p)
		callRules(problem{})
		callRules(mustParse(t, "0/-1"))
		callRules(mustParse(t, "2,1;1,2/-5,-6"))
		if again := callRules(p); !reflect.DeepEqual(first, again) {
			t.Errorf("results = %v, then %v", first, again)
		}
		if !same() {
			t.Errorf("an argument has been changed")
		}
	}
}

// TestRuleResultsAreNew writes into results, and looks at their neighbours, at the argument and at the next
// results.
func TestRuleResultsAreNew(t *testing.T) {
	const text = "1,2,0;0,1,2;2,0,1/-1,-1,-1"
	p := mustParse(t, text)
	first := callRules(p)
	lists, fracs := rows{}, [][]frac{}
	for range 2 {
		for rule := range int64(4) {
			sets, _, _ := impl.RunByRule(p, 0, rule)
			alone, _, _ := impl.RunByRule(p, 7, rule)
			counts, _ := impl.CountEnds(p, rule)
			z, _ := impl.SolveByRule(p, rule)
			lists, fracs = append(lists, sets, alone, counts), append(fracs, z)
		}
		murty := mustMurty(t, 5)
		lists = append(append(lists, murty.M...), murty.Q)
		murty.M[0] = nil
	}
	spoilRows(t, "sets, ends and problems", lists)
	spoilFracs(t, "solutions", fracs)
	if !sameProblems(p, mustParse(t, text)) {
		t.Errorf("the argument is now %v", p)
	}
	if again := callRules(p); !reflect.DeepEqual(first, again) {
		t.Errorf("results = %v, then %v", first, again)
	}
}
