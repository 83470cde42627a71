package tests

import (
	"fmt"
	"math/rand"
	"reflect"
	"regexp"
	"slices"
	"strconv"
	"strings"
	"testing"

	"loop.example/g01343/impl"
)

type desk = impl.Desk

const newText = "2,1;1,2/-5,-6"

func mustDesk(t *testing.T, text string, s int64) desk {
	t.Helper()
	d := desk{Problem: mustParse(t, text), Set: s}
	if !impl.IsDesk(d) {
		t.Fatalf("IsDesk(%v) is false", d)
	}
	return d
}

func sameDesks(a, b desk) bool {
	return sameProblems(a.Problem, b.Problem) && a.Set == b.Set
}

// checkLine looks at the output of a line, at the desk after it, and at the desk given, with what is behind
// its lists.
func checkLine(t *testing.T, d desk, line, want string, after desk) {
	t.Helper()
	p, same := guardedProblem(d.Problem)
	got, output := impl.RunLine(desk{Problem: p, Set: d.Set}, line)
	if output != want || !sameDesks(got, after) {
		t.Errorf("RunLine(%v, %q) = %v, %q, want %v, %q", d, line, got, output, after, want)
	}
	if !impl.IsDesk(got) {
		t.Errorf("RunLine(%v, %q) leads to %v, which is no desk", d, line, got)
	}
	if !same() {
		t.Errorf("RunLine(%v, %q) has changed the desk given", d, line)
	}
}

func checkErrors(t *testing.T, d desk, lines ...string) {
	t.Helper()
	for _, line := range lines {
		checkLine(t, d, line, "error", d)
	}
}

// toldPairs has lines that change nothing, each with its output.
type toldPairs struct {
	text  string
	set   int64
	pairs []string
}

func checkTold(t *testing.T, list []toldPairs) {
	t.Helper()
	for _, c := range list {
		d := mustDesk(t, c.text, c.set)
		for pair := range slices.Chunk(c.pairs, 2) {
			checkLine(t, d, pair[0], pair[1], d)
		}
	}
}

// manyLines has each command at least once, with words for problems of two numbers.
func manyLines() []string {
	return []string{
		"problem 1,2;0,1/-1,-1", "right 5 6", "murty 3", "renumber 1 0", "pivoted", "set 2", "flip 1", "step 0",
		"show", "look", "point", "det", "basic", "feasible", "solutions", "least", "degenerate", "signs", "kinds",
		"minor", "pivot", "side", "inverse", "cube", "run 0", "solve 1", "worst 2", "covers", "degree",
		"follow 1 3", "breaks 1 3", "reset",
	}
}

func TestConsoleConstants(t *testing.T) {
	if impl.MaxConsole != 4000 || impl.MaxLines != 40 {
		t.Errorf("limits = %d, %d", impl.MaxConsole, impl.MaxLines)
	}
}

func TestNewDesk(t *testing.T) {
	want := desk{Problem: problem{M: rows{{2, 1}, {1, 2}}, Q: []int64{-5, -6}}}
	first, second := impl.NewDesk(), impl.NewDesk()
	if !sameDesks(first, want) || !impl.IsDesk(first) {
		t.Errorf("NewDesk() = %v", first)
	}
	spoilRows(t, "new desks", slices.Concat(first.Problem.M, second.Problem.M, rows{first.Problem.Q, second.Problem.Q}))
	first.Problem.M[0], second.Problem.M[1] = nil, nil
	if again := impl.NewDesk(); !sameDesks(again, want) {
		t.Errorf("NewDesk() = %v, once another one has been changed", again)
	}
}

func TestIsDesk(t *testing.T) {
	for n := 1; n <= impl.MaxSize; n++ {
		for _, p := range []problem{squareOf(n, 0), squareOf(n, impl.MaxEntry), squareOf(n, -impl.MaxEntry)} {
			for _, s := range allSets(n) {
				if !impl.IsDesk(desk{Problem: p, Set: s}) {
					t.Errorf("IsDesk(%v, %d) is false", p, s)
				}
			}
			for _, s := range badSets(n) {
				if impl.IsDesk(desk{Problem: p, Set: s}) {
					t.Errorf("IsDesk(%v, %d) is true", p, s)
				}
			}
		}
	}
	for name, p := range invalidProblems() {
		for _, s := range []int64{0, 1, 3, -1, 64, leastInt, greatestInt} {
			if impl.IsDesk(desk{Problem: p, Set: s}) {
				t.Errorf("IsDesk of the problem %q and the set %d is true", name, s)
			}
		}
	}
}

// badSets are none for problems of a size.
func badSets(n int) []int64 {
	return []int64{-1, -2, 1 << n, 1<<n + 1, 1 << (n + 1), 63, 64, 1 << 32, 1 << 62, leastInt, leastInt + 1, greatestInt}
}

func TestDesksThatAreNone(t *testing.T) {
	none := []desk{}
	for _, p := range invalidProblems() {
		none = append(none, desk{Problem: p}, desk{Problem: p, Set: 1}, desk{Problem: p, Set: -1})
	}
	for n := 1; n <= impl.MaxSize; n++ {
		for _, s := range badSets(n) {
			none = append(none, desk{Problem: squareOf(n, 1), Set: s})
		}
	}
	for _, d := range none {
		for _, line := range append(manyLines(), "", " ", "fly", "set 0", "problem 1/1", "reset ", "show 1") {
			after, output := impl.RunLine(d, line)
			if output != "" || len(after.Problem.M) != 0 || len(after.Problem.Q) != 0 || after.Set != 0 {
				t.Errorf("RunLine(%v, %q) = %v, %q", d, line, after, output)
			}
		}
	}
}

func TestExampleOfTheConsole(t *testing.T) {
	checkLine(t, impl.NewDesk(), "solutions", "4/3 7/3", impl.NewDesk())
}

// TestLinesWithProblems: each output is the text of the problem, so that it also tells the desk after the
// line, which is fresh.
func TestLinesWithProblems(t *testing.T) {
	const even, five = "1,2,3;4,5,6;7,8,9/10,20,30", "1,0,0,0,0;0,2,0,0,0;0,0,3,0,0;0,0,0,4,0;0,0,0,0,5/10,20,30,40,50"
	for _, c := range []struct {
		text       string
		set        int64
		line, want string
	}{
		{newText, 3, "problem 1/1", "1/1"},
		{newText, 3, "problem 0/0", "0/0"},
		{newText, 3, "problem -20/-100", "-20/-100"},
		{newText, 1, "problem 20,-20;0,1/100,-100", "20,-20;0,1/100,-100"},
		{newText, 2, "problem " + newText, newText},
		{"1/1", 1, "problem " + five, five},
		{five, 31, "problem 7/3", "7/3"},
		{newText, 3, "right 5 6", "2,1;1,2/5,6"},
		{newText, 3, "right -5 -6", newText},
		{newText, 1, "right 0 0", "2,1;1,2/0,0"},
		{newText, 2, "right 100 -100", "2,1;1,2/100,-100"},
		{"-3/7", 1, "right 8", "-3/8"},
		{five, 31, "right -1 2 -3 4 -5", "1,0,0,0,0;0,2,0,0,0;0,0,3,0,0;0,0,0,4,0;0,0,0,0,5/-1,2,-3,4,-5"},
		{newText, 3, "murty 1", "1/-1"},
		{newText, 3, "murty 2", "1,2;0,1/-1,-1"},
		{newText, 3, "murty 3", "1,2,2;0,1,2;0,0,1/-1,-1,-1"},
		{"1/1", 1, "murty 4", "1,2,2,2;0,1,2,2;0,0,1,2;0,0,0,1/-1,-1,-1,-1"},
		{five, 31, "murty 5", "1,2,2,2,2;0,1,2,2,2;0,0,1,2,2;0,0,0,1,2;0,0,0,0,1/-1,-1,-1,-1,-1"},
		{newText, 3, "renumber 0 1", newText},
		{newText, 3, "renumber 1 0", "2,1;1,2/-6,-5"},
		{"20/-100", 1, "renumber 0", "20/-100"},
		{even, 7, "renumber 1 2 0", "9,7,8;3,1,2;6,4,5/30,10,20"},
		{even, 1, "renumber 2 1 0", "9,8,7;6,5,4;3,2,1/30,20,10"},
		{even, 2, "renumber 0 2 1", "1,3,2;7,9,8;4,6,5/10,30,20"},
		{five, 9, "renumber 4 0 3 1 2", "2,0,0,0,0;0,4,0,0,0;0,0,5,0,0;0,0,0,3,0;0,0,0,0,1/20,40,50,30,10"},
		{newText, 0, "pivoted", newText},
		{"1,1;1,1/-1,-1", 2, "pivoted", "0,1;-1,1/0,1"},
		{"1,20;0,1/0,-5", 2, "pivoted", "1,20;0,1/100,5"},
		{"1,2,2;0,1,2;0,0,1/-1,-1,-1", 7, "pivoted", "1,-2,2;0,1,-2;0,0,1/1,-1,1"},
		{"1,2,2;0,1,2;0,0,1/-1,-1,-1", 2, "pivoted", "1,2,-2;0,1,-2;0,0,1/1,1,-1"},
		{"-1/100", 1, "pivoted", "-1/100"},
	} {
		checkLine(t, mustDesk(t, c.text, c.set), c.line, c.want, mustDesk(t, c.want, 0))
	}
}

func TestProblemsThatLinesRefuse(t *testing.T) {
	for s := range int64(4) {
		checkErrors(t, mustDesk(t, newText, s),
			// No text, a text with more behind it, or one that is none.
			"problem", "problem ", "problem  ", "problem  1/1", "problem 1/1 ", "problem 1/1 2", "problem 1/1 2/2", "problem 1 / 1", "problem 1, 2;3,4/1,1",
			"problem 1", "problem /", "problem 1/", "problem /1", "problem 1/1/1", "problem 1,2/1", "problem 1/1,2", "problem 1,2;3/1,1", "problem 1;2/1,1",
			"problem 1/1;", "problem 1,/1", "problem 01/1", "problem -0/1", "problem +1/1", "problem 1/-0", "problem 1/00", "problem 1.0/1", "problem x/1", "problem x",
			"problem 21/1", "problem -21/1", "problem 1/101", "problem 1/-101", "problem 99999999999999999999/1",
			"problem 1,1,1,1,1,1;1,1,1,1,1,1;1,1,1,1,1,1;1,1,1,1,1,1;1,1,1,1,1,1;1,1,1,1,1,1/1,1,1,1,1,1",
			// No right side: too few numbers, too many, or too great ones.
			"right", "right 5", "right 5 6 7", "right 101 0", "right 0 101", "right -101 0", "right 0 -101", "right 999999999 0", "right -999999999 0", "right 5,6", "right 5/1 6",
			// No size.
			"murty", "murty 0", "murty 6", "murty 7", "murty 999999999", "murty -1", "murty 1 2", "murty x",
			// No renumbering.
			"renumber", "renumber 0", "renumber 0 0", "renumber 1 1", "renumber 0 2", "renumber 1 2", "renumber -1 0", "renumber 0 1 2", "renumber 0 1 1", "renumber 999999999 0", "renumber 0,1",
			"pivoted 0", "pivoted 1")
	}
	for _, c := range []struct {
		text string
		set  int64
	}{
		// Not whole, not basic, or beyond the limits: of M, and of Q alone.
		{newText, 1}, {newText, 2}, {newText, 3}, {"2/-5", 1}, {"2/-4", 1}, {"1,1;1,1/-1,-1", 3}, {"0/0", 1}, {"0,0;0,0/1,1", 2},
		{"1,20;20,1/0,0", 1}, {"1,20;0,1/6,-6", 2}, {"1,20;0,1/100,-10", 2}, {"1,20;0,1/0,-6", 2},
	} {
		checkErrors(t, mustDesk(t, c.text, c.set), "pivoted")
	}
}

// TestLinesWithSets: each output is the set after the line.
func TestLinesWithSets(t *testing.T) {
	const murty, five = "1,2,2;0,1,2;0,0,1/-1,-1,-1", "1,2,2,2,2;0,1,2,2,2;0,0,1,2,2;0,0,0,1,2;0,0,0,0,1/-1,-2,-4,-8,-16"
	for _, c := range []struct {
		text  string
		set   int64
		line  string
		after int64
	}{
		{newText, 0, "set 0", 0}, {newText, 0, "set 3", 3}, {newText, 3, "set 0", 0}, {newText, 3, "set 1", 1}, {newText, 1, "set 2", 2}, {newText, 2, "set 2", 2},
		{"0/0", 0, "set 1", 1}, {"0/0", 1, "set 0", 0}, {five, 0, "set 31", 31}, {five, 31, "set 16", 16}, {"1,1;1,1/-1,-1", 0, "set 3", 3},
		{newText, 0, "flip 0", 1}, {newText, 0, "flip 1", 2}, {newText, 1, "flip 0", 0}, {newText, 1, "flip 1", 3}, {newText, 3, "flip 0", 2}, {newText, 3, "flip 1", 1},
		{"0/0", 0, "flip 0", 1}, {"0/0", 1, "flip 0", 0}, {five, 0, "flip 4", 16}, {five, 31, "flip 4", 15}, {five, 21, "flip 3", 29}, {murty, 2, "flip 2", 6},
		{newText, 0, "step 0", 1}, {newText, 0, "step 1", 2}, {newText, 0, "step 2", 2}, {newText, 0, "step 3", 3}, {newText, 1, "step 0", 3}, {newText, 2, "step 3", 3},
		{murty, 5, "step 0", 4}, {murty, 6, "step 1", 4}, {murty, 6, "step 0", 7}, {murty, 6, "step 3", 5}, {murty, 0, "step 2", 1},
		{five, 0, "step 0", 1}, {five, 0, "step 1", 16}, {five, 0, "step 2", 16}, {five, 0, "step 3", 31}, {"0/-1", 0, "step 0", 1},
	} {
		checkLine(t, mustDesk(t, c.text, c.set), c.line, strconv.FormatInt(c.after, 10), mustDesk(t, c.text, c.after))
	}
}

func TestSetsThatLinesRefuse(t *testing.T) {
	for n := 1; n <= impl.MaxSize; n++ {
		p := problem{M: squareOf(n, 1).M, Q: slices.Repeat([]int64{-1}, n)}
		for _, s := range []int64{0, 1, 1<<n - 1} {
			beyond := fmt.Sprint(1 << n)
			checkErrors(t, desk{Problem: p, Set: s},
				"set "+beyond, "set 1"+beyond, "set 999999999", "set -1", "set", "set ", "set 0 ", "set 0 0", "set x", "set 0,1", "set "+fmt.Sprint(1<<32),
				"flip "+fmt.Sprint(n), "flip "+fmt.Sprint(n+1), "flip 31", "flip 32", "flip 63", "flip 64", "flip 999999999", "flip -1", "flip", "flip ", "flip 0 ", "flip 0 0", "flip x",
				"step 4", "step 5", "step 64", "step 999999999", "step -1", "step", "step ", "step 0 ", "step 0 0", "step x")
		}
	}
	rules := []string{"step 0", "step 1", "step 2", "step 3"}
	// No number less than 0, and sets that are not basic.
	checkErrors(t, mustDesk(t, newText, 3), rules...)
	checkErrors(t, mustDesk(t, "1/0", 0), rules...)
	checkErrors(t, mustDesk(t, "1,2,2;0,1,2;0,0,1/-1,-1,-1", 4), rules...)
	checkErrors(t, mustDesk(t, "1,1;1,1/-1,-1", 3), rules...)
	checkErrors(t, mustDesk(t, "0/-1", 1), rules...)
}

func TestLinesOfOneNumber(t *testing.T) {
	checkTold(t, []toldPairs{
		{"0/-1", 0, []string{
			"show", "0/-1", "look", "0", "point", "-1", "det", "1", "basic", "0",
			"feasible", "none", "solutions", "none", "least", "error", "degenerate", "no", "signs", "-1",
			"kinds", "0 1 1 0 0 0 1 1 0 1 0 1", "minor", "1", "pivot", "0", "side", "-1 1", "inverse", "error",
			"cube", "error", "covers", "none", "degree", "0", "run 0", "0 1 1", "solve 0", "error", "worst 0", "error",
		}},
		{"0/-1", 1, []string{
			"show", "0/-1", "look", "1", "point", "error", "det", "0", "basic", "0",
			"feasible", "none", "solutions", "none", "least", "error", "degenerate", "no", "signs", "error",
			"kinds", "0 1 1 0 0 0 1 1 0 1 0 1", "minor", "0", "pivot", "error", "side", "error", "inverse", "error",
			"cube", "error", "covers", "none", "degree", "0", "run 0", "1 1", "run 3", "1 1", "solve 3", "error", "worst 3", "error",
		}},
		{"2/-5", 1, []string{
			"show", "2/-5", "look", "1", "point", "5/2", "det", "-2", "basic", "0 1",
			"feasible", "1", "solutions", "5/2", "least", "5/2", "degenerate", "no", "signs", "1",
			"kinds", "1 1 1 1 1 1 1 1 1 1 1 1", "minor", "2", "pivot", "1", "side", "5 2", "inverse", "1",
			"cube", "1 0", "covers", "1", "degree", "1", "run 0", "1 0", "solve 1", "5/2", "worst 2", "1 1",
		}},
		{"-1/1", 0, []string{"solutions", "0;1", "least", "0", "covers", "0 1", "degree", "0", "cube", "error", "worst 0", "error"}},
	})
}

func TestLinesOfTheNewDesk(t *testing.T) {
	checkTold(t, []toldPairs{
		{newText, 0, []string{
			"show", newText, "look", "0", "point", "-5 -6", "det", "1", "basic", "0 1 2 3",
			"feasible", "3", "solutions", "4/3 7/3", "least", "4/3 7/3", "degenerate", "no", "signs", "-1 -1",
			"kinds", "1 1 0 0 1 1 1 1 1 1 1 0", "minor", "1", "pivot", "2,1;1,2", "side", "-5 -6 1", "inverse", "2,-1;-1,2",
			"cube", "3 2 1 0", "covers", "3", "degree", "1", "run 0", "0 1 3 0", "run 1", "0 2 3 0",
			"run 2", "0 2 3 0", "run 3", "0 3 0", "solve 0", "4/3 7/3", "solve 1", "4/3 7/3", "solve 2", "4/3 7/3",
			"solve 3", "4/3 7/3", "worst 0", "2 3", "worst 1", "2 3", "worst 2", "2 3", "worst 3", "1 1",
		}},
		{newText, 1, []string{
			"show", newText, "look", "1", "point", "5/2 -7/2", "det", "-2", "signs", "1 -1",
			"minor", "2", "pivot", "1,-1;1,3", "side", "5 -7 2", "inverse", "2,-1;-1,2", "cube", "3 2 1 0",
			"covers", "3", "degree", "1", "run 0", "1 3 0", "solve 0", "4/3 7/3", "worst 3", "1 1",
		}},
		{newText, 3, []string{
			"look", "3", "point", "4/3 7/3", "det", "3", "basic", "0 1 2 3", "feasible", "3", "signs", "1 1",
			"minor", "3", "pivot", "2,-1;-1,2", "side", "4 7 3", "inverse", "2,-1;-1,2", "run 0", "3 0", "run 3", "3 0",
		}},
	})
}

func TestLinesOfTwoNumbers(t *testing.T) {
	checkTold(t, []toldPairs{
		{"1,1;1,1/-1,-1", 3, []string{
			"show", "1,1;1,1/-1,-1", "look", "3", "point", "error", "det", "0", "basic", "0 1 2",
			"feasible", "1 2", "solutions", "0 1;1 0", "least", "error", "degenerate", "yes", "signs", "error",
			"kinds", "0 1 0 0 0 0 1 1 1 1 0 0", "minor", "0", "pivot", "error", "side", "error", "inverse", "error",
			"cube", "error", "covers", "1 2", "degree", "error", "run 0", "3 1", "solve 0", "1 0",
			"solve 1", "0 1", "solve 2", "1 0", "solve 3", "error", "worst 0", "1 1", "worst 3", "error",
		}},
		{"-1,2;2,-1/1,1", 2, []string{
			"show", "-1,2;2,-1/1,1", "look", "2", "point", "3 1", "det", "1", "basic", "0 1 2 3",
			"feasible", "0 1 2", "solutions", "0 0;0 1;1 0", "least", "0 0", "degenerate", "no", "signs", "1 1",
			"kinds", "0 0 0 0 0 0 0 0 0 1 0 0", "minor", "-1", "pivot", "3,-2;2,-1", "side", "3 1 1", "inverse", "1,2;2,1",
			"cube", "error", "covers", "0 1 2", "degree", "-1", "run 0", "2 0", "solve 0", "0 0",
			"worst 0", "error", "worst 1", "error", "worst 2", "error", "worst 3", "2 1",
		}},
		{"0,0;0,0/0,0", 0, []string{
			"point", "0 0", "basic", "0", "feasible", "0", "solutions", "0 0", "degenerate", "yes", "signs", "0 0",
			"kinds", "0 1 1 0 0 0 1 1 0 1 0 1", "pivot", "0,0;0,0", "side", "0 0 1", "inverse", "error",
			"cube", "error", "covers", "0", "degree", "error", "run 0", "0 0", "solve 3", "0 0", "worst 0", "error",
		}},
		{"2,-1;-1,2/-20,3", 2, []string{
			"point", "-37/2 -3/2", "det", "-2", "solutions", "37/3 14/3", "least", "37/3 14/3", "signs", "-1 -1",
			"kinds", "1 1 1 1 1 1 1 1 1 1 1 0", "minor", "2", "pivot", "3,-1;1,1", "side", "-37 -3 2", "inverse", "2,1;1,2",
			"cube", "1 2 3 0", "run 0", "2 3 0", "run 1", "2 0 1 3 0", "run 2", "2 3 0", "run 3", "2 1 3 0",
		}},
		{"-1,0;0,-1/1,1", 1, []string{
			"feasible", "0 1 2 3", "solutions", "0 0;0 1;1 0;1 1", "least", "0 0", "kinds", "0 0 1 0 1 0 0 0 0 1 1 1",
			"minor", "-1", "pivot", "-1,0;0,-1", "inverse", "-1,0;0,-1", "covers", "0 1 2 3", "degree", "0",
		}},
		{"2,1;1,2/-2,-1", 3, []string{
			"point", "1 0", "feasible", "1 3", "solutions", "1 0", "degenerate", "yes", "signs", "1 0",
			"side", "3 0 3", "cube", "error", "covers", "1 3", "degree", "error", "solve 0", "1 0",
		}},
	})
}

func TestLinesOfMoreNumbers(t *testing.T) {
	checkTold(t, []toldPairs{
		{"1,2,2;0,1,2;0,0,1/-1,-1,-1", 5, []string{
			"point", "-1 1 1", "det", "1", "basic", "0 1 2 3 4 5 6 7", "feasible", "4", "solutions", "0 0 1",
			"signs", "-1 1 1", "kinds", "1 1 0 0 1 0 1 1 1 0 0 1", "minor", "1",
			"pivot", "1,-2,-2;0,1,2;0,0,1", "side", "-1 1 1 1", "inverse", "1,-2,2;0,1,-2;0,0,1",
			"cube", "7 6 4 5 0 1 3 2", "covers", "4", "degree", "1", "run 0", "5 4 0",
			"solve 0", "0 0 1", "worst 0", "7 7", "worst 1", "1 1", "worst 2", "7 7", "worst 3", "3 7",
		}},
		{"1,2,2;0,1,2;0,0,1/-1,-1,-1", 0, []string{"run 0", "0 1 3 2 6 7 5 4 0"}},
		{"-20,20,-20,20,-20;1,2,3,4,5;0,0,7,0,0;3,-3,3,-3,1;9,8,7,6,-5/100,-100,0,1,-1", 22, []string{
			"look", "22", "point", "-86/5 101/10 0 -667/50 399/25", "det", "350",
			"basic", "0 1 2 3 4 5 6 7 8 10 12 14 16 17 18 19 20 21 22 23 24 25 26 27 28 29 30 31",
			"feasible", "3 7", "solutions", "110/3 95/3 0 0 0", "degenerate", "yes", "signs", "-1 1 0 -1 1", "minor", "-350",
			"pivot", "-15400,-420,-1800,2800,980;-350,35,-50,-350,35;0,0,50,0,0;2170,-49,290,-140,-119;70,56,-10,-140,-14",
			"side", "-6020 3535 0 -4669 5586 350",
			"inverse", "140,560,-1600,2800,560;-2310,-4200,1600,-18200,1400;0,0,1600,0,0;2170,4760,-1600,15400,-840;-840,0,0,-5600,0",
			"degree", "error", "run 0", "22 23 22 2", "run 2", "22 23 31 29 31 2", "solve 0", "error", "worst 0", "error",
		}},
	})
}

func TestLinesWithDirections(t *testing.T) {
	for _, c := range []struct{ text, direction, sets, breaks string }{
		// With breakpoints: one, two, and seven.
		{newText, " 1 3", "3 1 0", "7/5 5"},
		{newText, " 1 0", "3 2", "2"},
		{"2,1;1,2/5,6", " -1 -3", "0 2", "2"},
		{"1/1", " -100", "0 1", "1/100"},
		{"20,0;0,20/-99,100", " 100 -99", "1 0 2", "99/100 100/99"},
		{"1,0,0;2,1,0;2,2,1/56,52,50", " -1 -1 -1", "0 4 6 2 3 7 5 1", "50 52 54 56 58 60 62"},
		// Without one.
		{newText, " -1 -1", "3", "none"},
		{"2,1;1,2/5,6", " 1 0", "0", "none"},
		{"1/1", " 100", "0", "none"},
		// No direction: no number, too few, too many, too great ones, or zeros alone.
		{"1/1", "", "error", "error"},
		{"1/1", " 1 1", "error", "error"},
		{newText, "", "error", "error"},
		{newText, " 1", "error", "error"},
		{newText, " 1 3 1", "error", "error"},
		{newText, " 0 0", "error", "error"},
		{newText, " 101 1", "error", "error"},
		{newText, " 1 -101", "error", "error"},
		{newText, " 999999999 1", "error", "error"},
		// No numbers, or more than one blank.
		{newText, " 1,3", "error", "error"},
		{newText, " 1 3 ", "error", "error"},
		{newText, "  1 3", "error", "error"},
		{newText, " 1  3", "error", "error"},
		{newText, " 1 x", "error", "error"},
		{newText, " 1/1 3", "error", "error"},
		// No way: Q is not covered, not inner, or covered twice, the numbers are not alone, or do not rise.
		{"0/-1", " 1", "error", "error"},
		{"1/0", " 1", "error", "error"},
		{"-1/1", " 1", "error", "error"},
		{"-1,2;2,-1/1,1", " 1 1", "error", "error"},
		{"2,1;1,2/5,6", " -5 -6", "error", "error"},
		{"1,0;0,1/5,5", " -1 -1", "error", "error"},
		{"0/1", " -1", "error", "error"},
	} {
		// The set of the desk does not matter.
		for _, s := range []int64{0, 1} {
			d := mustDesk(t, c.text, s)
			checkLine(t, d, "follow"+c.direction, c.sets, d)
			checkLine(t, d, "breaks"+c.direction, c.breaks, d)
		}
	}
}

func TestRulesOfLines(t *testing.T) {
	for _, d := range []desk{mustDesk(t, newText, 0), mustDesk(t, newText, 3), mustDesk(t, "0/-1", 1)} {
		for _, command := range []string{"run", "solve", "worst"} {
			for _, word := range []string{"", " ", " 4", " 5", " 64", " 999999999", " -1", " 0 ", "  0", " 0 0", " 0 1", " x", " 0,1", " 00"} {
				checkErrors(t, d, command+word)
			}
		}
	}
}

func TestReset(t *testing.T) {
	for _, d := range []desk{impl.NewDesk(), mustDesk(t, newText, 3), mustDesk(t, "0/-1", 1), {Problem: squareOf(5, -20), Set: 31}} {
		checkLine(t, d, "reset", "ok", impl.NewDesk())
		checkErrors(t, d, "reset ", "reset 0", " reset", "Reset")
	}
}

// TestWordsOfLines: each line is right as it stands, and wrong with one word more, which may be empty, with
// another command, or with other white space.
func TestWordsOfLines(t *testing.T) {
	d := mustDesk(t, "1,1;0,1/-7,-3", 2)
	seen := map[string]bool{}
	for _, line := range manyLines() {
		if _, output := impl.RunLine(d, line); output == "error" || output == "" {
			t.Errorf("RunLine(%v, %q) has the output %q", d, line, output)
		}
		command, words, _ := strings.Cut(line, " ")
		seen[command] = true
		checkErrors(t, d, line+" ", line+"  ", " "+line, "  "+line, line+" x", line+" 0 0 0 0 0 0", line+"\n", line+"\t", line+"\r", line+"\v", line+"\f", "\t"+line, "\n"+line,
			line+"\x00", "\x00"+line, line+"\xff", line+"\xa0", line+"\u00a0", line+"\u2003", line+"\u00e9", line+";", line+".",
			command[:len(command)-1], command+"s"+strings.Repeat(" "+words, min(len(words), 1)),
			strings.ToUpper(line), strings.ToUpper(line[:1])+line[1:], strings.ToUpper(command)+line[len(command):])
		if words != "" {
			checkErrors(t, d, command, command+" ", command+"  "+words, command+"\t"+words, command+"\u00a0"+words, command+words, command+"\n"+words, words, words+" "+command)
		} else {
			checkErrors(t, d, line+" 0", line+" 1", line+" -1", line+" "+line)
		}
	}
	if len(seen) != 32 {
		t.Errorf("%d commands, not 32", len(seen))
	}
	checkErrors(t, d, "", " ", "  ", "     ", "\t", "\n", "\x00", "\xff", "\xc3", "fly", "0", "1/1", "error", "ok", "none", "yes", "help", "quit", "undo", "shows", "s", "Show", "SHOW", "sh ow", "show look", "show,look",
		"solution", "points", "determinant", "sets", "lemke", "reset reset", "mürty 3", "ſhow", "set １", "look\u200b", strings.Repeat("x", 5000), strings.Repeat(" ", 5000), "look"+strings.Repeat(" ", 4000), "right"+strings.Repeat(" 1", 3000))
}

// TestNumbersOfLines has spellings of numbers in the place of a number, and the same in lists.
func TestNumbersOfLines(t *testing.T) {
	d := mustDesk(t, "1,1;0,1/-7,-3", 2)
	wrong := []string{"", "00", "01", "000", "0000000001", "00000000", "+0", "+1", "-0", "-00", "-01", "--1", "-+1", "+-1", "-", "+", "0x1", "0b1", "0o1", "1e0", "1.0", "1.", ".1", "1_0", "1,0", "1/1", "a", "x1", "1x", "0-", "1-",
		"1000000000", "-1000000000", "1000000001", "4294967297", "-4294967297", "9223372036854775807", "-9223372036854775808", "9223372036854775808", "18446744073709551617", "99999999999999999999999", "\t1", "1\t", "1\n", "\x001", "1\x00", "１", "١", "½", "−1"}
	for _, word := range wrong {
		for _, command := range []string{"murty", "set", "flip", "step", "run", "solve", "worst"} {
			checkErrors(t, d, command+" "+word)
		}
		for _, command := range []string{"right", "renumber", "follow", "breaks"} {
			checkErrors(t, d, command+" 1 "+word, command+" "+word+" 1", command+" "+word, command+" "+word+" "+word, command+" 1 0 "+word)
		}
	}
	for _, command := range []string{"murty", "set", "flip", "step", "run", "solve", "worst"} {
		checkErrors(t, d, command+" -1", command+" -2", command+" -999999999", command+" 999999999", command+" 100000000")
	}
	for _, word := range []string{"0", "1", "-1", "9", "-9", "10", "-10", "99", "100", "-100"} {
		text := "1,1;0,1/" + word + ",7"
		checkLine(t, d, "right "+word+" 7", text, mustDesk(t, text, 0))
		text = "1,1;0,1/7," + word
		checkLine(t, d, "right 7 "+word, text, mustDesk(t, text, 0))
	}
}

// TestProblemsComeBackFromTheConsole: what is put out as a problem can be put in again.
func TestProblemsComeBackFromTheConsole(t *testing.T) {
	for _, p := range ruleProblems(60) {
		text, code := impl.ProblemText(p)
		if code != impl.ErrNone {
			t.Fatalf("ProblemText(%v): code %d", p, code)
		}
		fresh := desk{Problem: p}
		checkLine(t, impl.NewDesk(), "problem "+text, text, fresh)
		checkLine(t, fresh, "show", text, fresh)
		last := desk{Problem: p, Set: 1<<len(p.M) - 1}
		checkLine(t, last, "show", text, last)
		checkLine(t, last, "problem "+text, text, fresh)
		if outputs := impl.Console("problem " + text + "\nshow\nlook"); outputs != text+"\n"+text+"\n0\n" {
			t.Errorf("Console tells of %s: %q", text, outputs)
		}
	}
}

// exactLine executes a line apart from the console, with the functions that the list names.
func exactLine(d desk, line string) (desk, string) {
	const number, whole = `(0|[1-9][0-9]{0,8})`, `(?:0|-?[1-9][0-9]{0,8})`
	if m := regexp.MustCompile(`^problem ([^ ]*)$`).FindStringSubmatch(line); m != nil {
		return exactProblem(d)(impl.ParseProblem(m[1]))
	}
	if m := regexp.MustCompile(`^([a-z]+)$`).FindStringSubmatch(line); m != nil {
		switch m[1] {
		case "pivoted":
			return exactProblem(d)(impl.PivotedProblem(d.Problem, d.Set))
		case "reset":
			return impl.NewDesk(), "ok"
		}
		if output := exactAnswer(d, m[1]); output != "" {
			return d, output
		}
	}
	if m := regexp.MustCompile(`^([a-z]+) ` + number + `$`).FindStringSubmatch(line); m != nil {
		if after, output := exactNumbered(d, m[1], numbersIn(m[2])[0]); output != "" {
			return after, output
		}
	}
	if m := regexp.MustCompile(`^([a-z]+)((?: ` + whole + `)*)$`).FindStringSubmatch(line); m != nil {
		if after, output := exactListed(d, m[1], numbersIn(m[2])); output != "" {
			return after, output
		}
	}
	return d, "error"
}

func numbersIn(text string) []int64 {
	list := []int64{}
	for word := range strings.FieldsSeq(text) {
		x, _ := strconv.ParseInt(word, 10, 64)
		list = append(list, x)
	}
	return list
}

// exactProblem takes a problem with a code.
func exactProblem(d desk) func(problem, int64) (desk, string) {
	return func(p problem, code int64) (desk, string) {
		if code != impl.ErrNone {
			return d, "error"
		}
		text, _ := impl.ProblemText(p)
		return desk{Problem: p}, text
	}
}

// exactNumbered returns no output if the command is none with one number.
func exactNumbered(d desk, command string, x int64) (desk, string) {
	switch command {
	case "murty":
		return exactProblem(d)(impl.MurtyProblem(x))
	case "set":
		if x < 1<<len(d.Problem.Q) {
			return desk{Problem: d.Problem, Set: x}, fmt.Sprint(x)
		}
		return d, "error"
	case "flip":
		if x < int64(len(d.Problem.Q)) {
			return desk{Problem: d.Problem, Set: d.Set ^ 1<<x}, fmt.Sprint(d.Set ^ 1<<x)
		}
		return d, "error"
	case "step":
		s, code := impl.StepByRule(d.Problem, d.Set, x)
		if code != impl.ErrNone {
			return d, "error"
		}
		return desk{Problem: d.Problem, Set: s}, fmt.Sprint(s)
	case "run":
		sets, end, code := impl.RunByRule(d.Problem, d.Set, x)
		return d, written(code, sets, end)
	case "solve":
		z, code := impl.SolveByRule(d.Problem, x)
		return d, written(code, z)
	case "worst":
		steps, signs, code := impl.WorstSigns(d.Problem, x)
		return d, written(code, steps, signs)
	}
	return d, ""
}

// exactListed returns no output if the command is none with a list.
func exactListed(d desk, command string, list []int64) (desk, string) {
	switch command {
	case "right":
		p := problem{M: d.Problem.M, Q: list}
		_, code := impl.ProblemText(p)
		return exactProblem(d)(p, code)
	case "renumber":
		return exactProblem(d)(impl.RenumberProblem(d.Problem, list))
	case "follow":
		sets, _, code := impl.FollowProblem(d.Problem, list)
		return d, written(code, sets)
	case "breaks":
		_, breaks, code := impl.FollowProblem(d.Problem, list)
		return d, written(code, breaks)
	}
	return d, ""
}

// exactAnswer returns the empty string if the command is none that stands alone and changes nothing.
func exactAnswer(d desk, command string) string {
	p, s := d.Problem, d.Set
	answers := map[string]func() string{
		"show":       func() string { text, code := impl.ProblemText(p); return written(code, text) },
		"look":       func() string { return written(impl.ErrNone, s) },
		"point":      func() string { x, code := impl.PointOf(p, s); return written(code, x) },
		"det":        func() string { x, code := impl.DeterminantOf(p, s); return written(code, x) },
		"basic":      func() string { list, code := impl.BasicSets(p); return written(code, list) },
		"feasible":   func() string { list, code := impl.FeasibleSets(p); return written(code, list) },
		"solutions":  func() string { list, code := impl.SolutionsOf(p); return written(code, list) },
		"least":      func() string { z, code := impl.LeastSolution(p); return written(code, z) },
		"degenerate": func() string { yes, code := impl.IsDegenerate(p); return written(code, yes) },
		"signs":      func() string { list, code := impl.SignsOfSet(p, s); return written(code, list) },
		"kinds":      func() string { list, code := impl.KindsOf(p.M); return written(code, list) },
		"minor":      func() string { x, code := impl.MinorOf(p.M, s); return written(code, x) },
		"pivot":      func() string { pivot, code := impl.PivotOf(p, s); return written(code, pivot.Rows) },
		"side":       func() string { pivot, code := impl.PivotOf(p, s); return written(code, pivot.Side, pivot.Den) },
		"inverse":    func() string { m, _, code := impl.InverseOf(p); return written(code, m) },
		"cube":       func() string { c, code := impl.CubeOfProblem(p); return written(code, c.Out) },
		"covers":     func() string { list, code := impl.CoverList(p); return written(code, list) },
		"degree":     func() string { x, code := impl.DegreeAt(p); return written(code, x) },
	}
	if answer, ok := answers[command]; ok {
		return answer()
	}
	return ""
}

// written joins things with blanks, as the paragraph above the list has them put out.
func written(code int64, things ...any) string {
	if code != impl.ErrNone {
		return "error"
	}
	words := []string{}
	for _, thing := range things {
		switch x := thing.(type) {
		case bool:
			words = append(words, map[bool]string{true: "yes", false: "no"}[x])
		case rows:
			words = append(words, strings.NewReplacer("[[", "", "]]", "", "] [", ";", " ", ",").Replace(fmt.Sprint(x)))
		case []frac:
			words = append(words, writtenFracs(x))
		case [][]frac:
			texts := []string{}
			for _, z := range x {
				texts = append(texts, writtenFracs(z))
			}
			words = append(words, strings.Join(texts, ";"))
		default:
			words = append(words, strings.Trim(fmt.Sprint(x), "[]"))
		}
	}
	if text := strings.Join(words, " "); text != "" {
		return text
	}
	return "none"
}

func writtenFracs(list []frac) string {
	texts := []string{}
	for _, a := range list {
		texts = append(texts, strings.TrimSuffix(fmt.Sprintf("%d/%d", a.Num, a.Den), "/1"))
	}
	return strings.Join(texts, " ")
}

// someDesks returns the same desks at each call, of all sizes: with many problems, and with all kinds of sets.
func someDesks(t *testing.T) []desk {
	t.Helper()
	source := rand.New(rand.NewSource(35))
	list := []desk{impl.NewDesk()}
	for _, p := range slices.Concat(ruleProblems(60), greatProblems(10), pProblems(t)[:200]) {
		list = append(list, desk{Problem: p, Set: source.Int63n(1 << len(p.M))}, desk{Problem: p})
	}
	return list
}

// someLine returns a line for a desk, with each command alike, and with words that mostly are right.
func someLine(source *rand.Rand, d desk) string {
	n := len(d.Problem.M)
	lines := manyLines()
	command, _, _ := strings.Cut(lines[source.Intn(len(lines))], " ")
	words := []string{command}
	number := func(limit int) { words = append(words, strconv.Itoa(source.Intn(limit))) }
	switch command {
	case "problem":
		list := smallProblems(40)
		text, _ := impl.ProblemText(list[source.Intn(len(list))])
		words = append(words, text)
	case "right", "follow", "breaks":
		limit := []int{3, 9, 100}[source.Intn(3)]
		for range n {
			words = append(words, strconv.Itoa(source.Intn(2*limit+1)-limit))
		}
	case "renumber":
		for _, i := range source.Perm(n) {
			words = append(words, strconv.Itoa(i))
		}
	case "murty":
		number(7)
	case "set":
		number(1<<n + 2)
	case "flip":
		number(n + 1)
	case "step", "run", "solve", "worst":
		number(5)
	}
	return spoiledLine(source, words)
}

// spoiledLine joins words, one time in six with something that is wrong most times.
func spoiledLine(source *rand.Rand, words []string) string {
	line := strings.Join(words, " ")
	switch source.Intn(36) {
	case 0:
		return line + " "
	case 1:
		return " " + line
	case 2:
		return line + []string{" 0", " 1", " -1", " 01", " -0", " x", "\t", "\x00", "\xff"}[source.Intn(9)]
	case 3:
		// The command stays, as empty lines are left out of texts.
		return strings.Join(words[:max(1, len(words)-1)], " ")
	case 4:
		return strings.Replace(line, " ", "  ", 1)
	case 5:
		return strings.ToUpper(line[:1]) + line[1:]
	}
	return line
}

// TestLinesAgainstExactOnes counts outputs with and without error for each command.
func TestLinesAgainstExactOnes(t *testing.T) {
	source := rand.New(rand.NewSource(36))
	right, wrong := map[string]int{}, 0
	for _, d := range someDesks(t) {
		for range 12 {
			line := someLine(source, d)
			after, output := exactLine(d, line)
			checkLine(t, d, line, output, after)
			if output == "error" {
				wrong++
				continue
			}
			command, _, _ := strings.Cut(line, " ")
			right[command]++
		}
	}
	if len(right) != 32 || wrong < 500 {
		t.Errorf("only %d commands, and %d lines with errors", len(right), wrong)
	}
	for command, count := range right {
		if count < 60 {
			t.Errorf("only %d lines with %s", count, command)
		}
	}
}

// TestAllLinesOnAllDesks has each line that takes no number but a rule on each desk.
func TestAllLinesOnAllDesks(t *testing.T) {
	lines := []string{}
	for _, line := range manyLines() {
		if !strings.Contains(line, " ") {
			lines = append(lines, line)
		}
	}
	for rule := range 5 {
		for _, command := range []string{"step", "run", "solve"} {
			lines = append(lines, command+" "+strconv.Itoa(rule))
		}
	}
	errors := map[string]int{}
	for _, d := range someDesks(t) {
		for _, line := range lines {
			after, output := exactLine(d, line)
			checkLine(t, d, line, output, after)
			if output == "error" {
				errors[line]++
			}
		}
	}
	for _, line := range []string{"pivoted", "point", "least", "signs", "pivot", "side", "inverse", "cube", "degree", "step 0", "step 3", "solve 0", "solve 3"} {
		if errors[line] < 20 {
			t.Errorf("only %d errors with %s", errors[line], line)
		}
	}
}

// TestConsoleJoinsOutputs is promise 11: from the new desk on, line by line.
func TestConsoleJoinsOutputs(t *testing.T) {
	source := rand.New(rand.NewSource(37))
	changed := 0
	for i := range 400 {
		text, outputs, d := "", "", impl.NewDesk()
		for range 1 + i%28 {
			line := someLine(source, d)
			after, output := impl.RunLine(d, line)
			if !impl.IsDesk(after) || output == "" {
				t.Fatalf("RunLine(%v, %q) = %v, %q", d, line, after, output)
			}
			if output == "error" && !sameDesks(d, after) {
				t.Errorf("RunLine(%v, %q) has an error, and leads to %v", d, line, after)
			}
			if !sameDesks(d, after) {
				changed++
			}
			d = after
			text += line + strings.Repeat("\n", 1+max(0, source.Intn(9)-7))
			outputs += output + "\n"
		}
		if i%2 == 0 {
			text = strings.TrimRight(text, "\n")
		}
		if len(text) > impl.MaxConsole || strings.Count(text, "\n") >= impl.MaxLines {
			t.Fatalf("the text has %d bytes", len(text))
		}
		checkText(t, text, outputs, d)
	}
	if changed < 800 {
		t.Errorf("only %d lines have changed a desk", changed)
	}
}

func checkText(t *testing.T, text, outputs string, d desk) {
	t.Helper()
	if got := impl.Console(text); got != outputs {
		t.Errorf("Console(%q) = %q, want %q", text, got, outputs)
	}
	if after, ok := impl.DeskAfter(text); !ok || !sameDesks(after, d) {
		t.Errorf("DeskAfter(%q) = %v, %v, want %v", text, after, ok, d)
	}
}

func checkRefusedText(t *testing.T, text string) {
	t.Helper()
	if got := impl.Console(text); got != "" {
		t.Errorf("Console of %d bytes, %d newlines = %q", len(text), strings.Count(text, "\n"), got)
	}
	if after, ok := impl.DeskAfter(text); ok || len(after.Problem.M) != 0 || len(after.Problem.Q) != 0 || after.Set != 0 {
		t.Errorf("DeskAfter of %d bytes, %d newlines = %v, %v", len(text), strings.Count(text, "\n"), after, ok)
	}
}

func TestTexts(t *testing.T) {
	for _, c := range []struct {
		text, outputs, problem string
		set                    int64
	}{
		// No lines, and empty lines alone.
		{"", "", newText, 0}, {"\n", "", newText, 0}, {"\n\n\n", "", newText, 0},
		// With and without a newline at the end, and with empty lines ahead, between and behind.
		{"show", newText + "\n", newText, 0}, {"show\n", newText + "\n", newText, 0}, {"show\n\n", newText + "\n", newText, 0}, {"\nshow", newText + "\n", newText, 0}, {"\n\nshow\n\n\n", newText + "\n", newText, 0},
		{"set 3", "3\n", newText, 3}, {"set 3\nlook\npoint", "3\n3\n4/3 7/3\n", newText, 3}, {"set 3\n\n\nlook\n", "3\n3\n", newText, 3}, {"look\nset 3\nlook\n", "0\n3\n3\n", newText, 3},
		// Lines with errors are put out, and the lines behind them are executed.
		{"fly", "error\n", newText, 0}, {"fly\nset 1\nset 4\nlook", "error\n1\nerror\n1\n", newText, 1}, {" ", "error\n", newText, 0}, {" \nlook\n  ", "error\n0\nerror\n", newText, 0}, {"set 2\r\nlook", "error\n0\n", newText, 0},
		// Lines that give P a problem, and lines behind them.
		{"set 3\nright 5 6\nlook\nsolutions\n", "3\n2,1;1,2/5,6\n0\n0 0\n", "2,1;1,2/5,6", 0},
		{"murty 3\nset 2\npivoted\nset 5", "1,2,2;0,1,2;0,0,1/-1,-1,-1\n2\n1,2,-2;0,1,-2;0,0,1/1,1,-1\n5\n", "1,2,-2;0,1,-2;0,0,1/1,1,-1", 5},
		{"problem 2/-5\nflip 0\npoint\nfeasible\nreset\nlook", "2/-5\n1\n5/2\n1\nok\n0\n", newText, 0},
		{"problem 0/-1\nset 1\npoint\npivoted\nproblem x\nlook\nfeasible", "0/-1\n1\nerror\nerror\nerror\n1\nnone\n", "0/-1", 1},
		{"step 0\nstep 0\nstep 0\nrenumber 1 0\nstep 1", "1\n3\nerror\n2,1;1,2/-6,-5\n2\n", "2,1;1,2/-6,-5", 2},
		// Other bytes.
		{"\x00\nlook", "error\n0\n", newText, 0}, {"\xff\xfe\nlook", "error\n0\n", newText, 0}, {"set 1\n\u2028look\nlook", "1\nerror\n1\n", newText, 1}, {"look\x00\nlook", "error\n0\n", newText, 0}, {"look\vlook", "error\n", newText, 0}, {"\xef\xbb\xbflook", "error\n", newText, 0},
	} {
		checkText(t, c.text, c.outputs, mustDesk(t, c.problem, c.set))
	}
}

func TestLimitsOfLines(t *testing.T) {
	lines := func(count int, line string) string { return strings.Repeat(line+"\n", count) }
	for _, count := range []int{1, 39, 40} {
		checkText(t, lines(count, "look"), lines(count, "0"), impl.NewDesk())
		checkText(t, strings.TrimSuffix(lines(count, "look"), "\n"), lines(count, "0"), impl.NewDesk())
		checkText(t, lines(count, ""), "", impl.NewDesk())
		checkText(t, lines(count-1, "")+"look", "0\n", impl.NewDesk())
		checkText(t, "set 3\n"+lines(count-1, ""), "3\n", mustDesk(t, newText, 3))
		checkText(t, lines(count-1, "fly")+"set 1\n", lines(count-1, "error")+"1\n", mustDesk(t, newText, 1))
	}
	for _, count := range []int{41, 42, 400, 3999} {
		checkRefusedText(t, lines(count, ""))
		checkRefusedText(t, lines(count-1, "")+"x")
	}
	for _, count := range []int{41, 42, 400} {
		checkRefusedText(t, lines(count, "look"))
		checkRefusedText(t, strings.TrimSuffix(lines(count, "look"), "\n"))
		checkRefusedText(t, "set 3\n"+lines(count-1, ""))
		checkRefusedText(t, lines(count-2, "")+"set 3\nset 3")
	}
	checkRefusedText(t, lines(40, "look")+" ")
}

func TestLimitsOfBytes(t *testing.T) {
	x := func(count int) string { return strings.Repeat("x", count) }
	for _, count := range []int{3999, 4000} {
		checkText(t, x(count), "error\n", impl.NewDesk())
		checkText(t, x(count-1)+"\n", "error\n", impl.NewDesk())
		checkText(t, x(count-6)+"\nset 3", "error\n3\n", mustDesk(t, newText, 3))
		checkText(t, "set 3\n"+x(count-6), "3\nerror\n", mustDesk(t, newText, 3))
		checkText(t, x(count-39)+strings.Repeat("\n", 39), "error\n", impl.NewDesk())
	}
	for _, count := range []int{4001, 4002, 100000} {
		checkRefusedText(t, x(count))
		checkRefusedText(t, x(count-1)+"\n")
		checkRefusedText(t, "set 3\n"+x(count-6))
		checkRefusedText(t, x(count-6)+"\nset 3")
		checkRefusedText(t, strings.Repeat("\n", count))
		checkRefusedText(t, strings.Repeat("\x00", count))
	}
	// Bytes count, not what they stand for.
	checkText(t, strings.Repeat("\u00e9", 2000), "error\n", impl.NewDesk())
	checkText(t, strings.Repeat("\xff", 4000), "error\n", impl.NewDesk())
	checkText(t, strings.Repeat("\x00", 4000), "error\n", impl.NewDesk())
	checkRefusedText(t, strings.Repeat("\u00e9", 2000)+"x")
	checkRefusedText(t, strings.Repeat("\u20ac", 1334))
}

// TestOutputsAreNotLimited: outputs may be longer than MaxConsole.
func TestOutputsAreNotLimited(t *testing.T) {
	const wide = "-20,-20,-20,-20,-20;-20,-20,-20,-20,-20;-20,-20,-20,-20,-20;-20,-20,-20,-20,-20;-20,-20,-20,-20,-20/-100,-100,-100,-100,-100"
	checkText(t, "problem "+wide+strings.Repeat("\nshow", 39), strings.Repeat(wide+"\n", 40), mustDesk(t, wide, 0))
}

// TestConsoleKeepsNothing: each call tells the same once more, also behind others.
func TestConsoleKeepsNothing(t *testing.T) {
	d := mustDesk(t, "1,1;0,1/-7,-3", 2)
	for range 2 {
		for _, line := range manyLines() {
			after, output := exactLine(d, line)
			checkLine(t, d, line, output, after)
			impl.Console("problem 3/-3\nset 1\n" + line)
			impl.DeskAfter("murty 5\nset 31\nfly")
			impl.RunLine(desk{}, line)
			impl.RunLine(mustDesk(t, "0/-1", 1), "pivoted")
			checkText(t, "look\nshow", "0\n"+newText+"\n", impl.NewDesk())
		}
	}
}

// TestConsoleResultsAreNew writes into the desks returned, and looks at their lists, at the desk given and at
// the next results.
func TestConsoleResultsAreNew(t *testing.T) {
	given := mustDesk(t, "1,1;0,1/-7,-3", 2)
	for _, line := range append(manyLines(), "fly", "", "set 4", "right 1", "problem 1", "renumber 0 0", "murty 6", "step 4") {
		p, same := guardedProblem(given.Problem)
		first, output := impl.RunLine(desk{Problem: p, Set: given.Set}, line)
		second, _ := impl.RunLine(desk{Problem: p, Set: given.Set}, line)
		third, ok := impl.DeskAfter(line)
		if !ok || !sameDesks(first, second) {
			t.Errorf("RunLine(%v, %q) = %v, then %v", given, line, first, second)
		}
		lists := rows{}
		for _, d := range []desk{first, second, third} {
			lists = append(append(lists, d.Problem.M...), d.Problem.Q)
		}
		spoilRows(t, line, lists)
		for _, d := range []desk{first, second, third} {
			for i := range d.Problem.M[:cap(d.Problem.M)] {
				d.Problem.M[:cap(d.Problem.M)][i] = nil
			}
		}
		if !same() {
			t.Errorf("%q: the desk given shares memory with the one returned", line)
		}
		again, next := impl.RunLine(given, line)
		if after, want := exactLine(given, line); next != output || next != want || !sameDesks(again, after) {
			t.Errorf("RunLine(%v, %q) = %v, %q, once the desks returned have been changed", given, line, again, next)
		}
	}
	if !reflect.DeepEqual(given, mustDesk(t, "1,1;0,1/-7,-3", 2)) {
		t.Errorf("the desk given is now %v", given)
	}
}

// TestDesksWithSharedRows: the rows of the desk returned are not the same, though those of the one given are.
func TestDesksWithSharedRows(t *testing.T) {
	row := []int64{1, 1, 1}
	for _, line := range []string{"show", "set 3", "fly", "right 1 2 3", "renumber 0 1 2", "pivoted"} {
		after, _ := impl.RunLine(desk{Problem: problem{M: rows{row, row, row}, Q: row}}, line)
		spoilRows(t, line, append(slices.Clone(after.Problem.M), after.Problem.Q))
		if !slices.Equal(row, []int64{1, 1, 1}) {
			t.Fatalf("%q: the row given is now %v", line, row)
		}
	}
}
