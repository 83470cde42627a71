package tests

import (
	"math/big"
	"math/rand"
	"reflect"
	"runtime"
	"slices"
	"strconv"
	"strings"
	"sync"
	"testing"
	"time"

	"loop.example/g01343/impl"
)

type game = impl.Game

func gameFrom(a, b string) game {
	return game{A: rowsOf(a), B: rowsOf(b)}
}

// evenGame has one number in each table.
func evenGame(k, l int, a, b int64) game {
	row := func(x int64) []int64 { return slices.Repeat([]int64{x}, l) }
	g := game{}
	for range k {
		g.A, g.B = append(g.A, row(a)), append(g.B, row(b))
	}
	return g
}

func pennies() game {
	return gameFrom("2,1;1,2", "1,2;2,1")
}

// gameShapes returns all pairs of numbers of rows and columns.
func gameShapes() [][2]int {
	list := [][2]int{}
	for k := 1; k <= 4; k++ {
		for l := 1; l <= 4 && k+l <= impl.MaxSize; l++ {
			list = append(list, [2]int{k, l})
		}
	}
	return list
}

// someGames returns the same games at each call, of all shapes: with great numbers, and with so small
// ones that most of them have ties.
func someGames(count int) []game {
	source := rand.New(rand.NewSource(7))
	shapes, limits := gameShapes(), []int64{impl.MaxEntry, 2, 4}
	list := []game{}
	for i := range count {
		shape, limit := shapes[i%len(shapes)], limits[i/len(shapes)%3]
		g := evenGame(shape[0], shape[1], 1, 1)
		for r := range g.A {
			for c := range g.A[r] {
				g.A[r][c] += source.Int63n(limit)
				g.B[r][c] += source.Int63n(limit)
			}
		}
		list = append(list, g)
	}
	return list
}

// invalidGames has games that break one condition each.
func invalidGames() map[string]game {
	return map[string]game{
		"zero":              {},
		"empty":             {A: rows{}, B: rows{}},
		"no A":              {B: rows{{1}}},
		"no B":              {A: rows{{1}}},
		"nil rows":          {A: rows{nil}, B: rows{nil}},
		"empty rows":        {A: rows{{}, {}}, B: rows{{}, {}}},
		"five empty rows":   {A: rows{{}, {}, {}, {}, {}}, B: rows{{}, {}, {}, {}, {}}},
		"A without numbers": {A: rows{{}}, B: rows{{1}}},
		"B without numbers": {A: rows{{1}}, B: rows{{}}},
		"first row empty":   {A: rows{{}, {1}}, B: rows{{1}, {1}}},
		"last row empty":    {A: rows{{1}, {}}, B: rows{{1}, {1}}},
		"short row of A":    gameFrom("1,2;3", "1,2;3,4"),
		"long row of A":     gameFrom("1,2;3,4,5", "1,2;3,4"),
		"short row of B":    gameFrom("1,2;3,4", "1,2;3"),
		"long row of B":     gameFrom("1,2;3,4", "1,2,3;3,4"),
		"both rows long":    gameFrom("1,2;3,4,5", "1,2;3,4,5"),
		"B has less rows":   gameFrom("1,2;3,4", "1,2"),
		"B has more rows":   gameFrom("1,2;3,4", "1,2;3,4;5,6"),
		"B is wider":        gameFrom("1,2;3,4", "1,2,3;4,5,6"),
		"B is narrower":     gameFrom("1,2;3,4", "1;3"),
		"B is turned":       gameFrom("1,2,3;4,5,6", "1,2;3,4;5,6"),
		"B is a column":     gameFrom("1,2,3,4", "1;2;3;4"),
		"5 and 1":           evenGame(5, 1, 1, 1),
		"1 and 5":           evenGame(1, 5, 1, 1),
		"3 and 3":           evenGame(3, 3, 1, 1),
		"4 and 2":           evenGame(4, 2, 1, 1),
		"2 and 4":           evenGame(2, 4, 1, 1),
		"4 and 4":           evenGame(4, 4, 1, 1),
		"300 and 1":         evenGame(300, 1, 1, 1),
		"1 and 300":         evenGame(1, 300, 1, 1),
		"0 in A":            gameFrom("1,0;3,4", "1,2;3,4"),
		"0 in B":            gameFrom("1,2;3,4", "1,2;0,4"),
		"21 in A":           gameFrom("1,2;3,21", "1,2;3,4"),
		"21 in B":           gameFrom("1,2;3,4", "21,2;3,4"),
		"-1 in A":           gameFrom("-1,2;3,4", "1,2;3,4"),
		"-1 in B":           gameFrom("1,2;3,4", "1,-1;3,4"),
		"least in A":        {A: rows{{leastInt}}, B: rows{{1}}},
		"least in B":        {A: rows{{1}}, B: rows{{leastInt}}},
		"greatest in A":     {A: rows{{greatestInt}}, B: rows{{1}}},
		"greatest in B":     {A: rows{{1}}, B: rows{{greatestInt}}},
		"far above":         {A: rows{{1<<32 + 1}}, B: rows{{1}}},
	}
}

// ratMix returns the mix with parts that are divided by their sum.
func ratMix(parts ...int64) []*big.Rat {
	sum := int64(0)
	for _, x := range parts {
		sum += x
	}
	mix := []*big.Rat{}
	for _, x := range parts {
		mix = append(mix, big.NewRat(x, sum))
	}
	return mix
}

func mixOf(parts ...int64) []frac {
	return fracsFrom(ratMix(parts...))
}

// someMixes returns the same mixes at each call: pure ones, and ones with small and with great
// denominators, with some choices left out.
func someMixes(n int, seed int64) [][]frac {
	source := rand.New(rand.NewSource(seed))
	list := [][]frac{mixOf(slices.Repeat([]int64{1}, n)...)}
	for i := range n {
		parts := make([]int64, n)
		parts[i] = 1
		list = append(list, mixOf(parts...))
	}
	for _, limit := range []int64{2, 3, 100, 7500, impl.MaxFrac / 5} {
		parts := []int64{}
		for range n {
			parts = append(parts, source.Int63n(limit+1)*source.Int63n(4)/3)
		}
		parts[source.Intn(n)]++
		list = append(list, mixOf(parts...))
	}
	return list
}

// exactGets returns what each choice of a player gets against a mix of the other one.
func exactGets(g game, player int, mix []*big.Rat) []*big.Rat {
	gets := zerosOf(len(g.A) + len(g.A[0]) - len(mix))
	for i, row := range g.A {
		for j := range row {
			own, other, x := i, j, g.A[i][j]
			if player == 1 {
				own, other, x = j, i, g.B[i][j]
			}
			product := new(big.Rat).Mul(big.NewRat(x, 1), mix[other])
			gets[own].Add(gets[own], product)
		}
	}
	return gets
}

func exactPayoff(g game, player int, own, other []*big.Rat) *big.Rat {
	sum := new(big.Rat)
	for i, x := range exactGets(g, player, other) {
		sum.Add(sum, new(big.Rat).Mul(own[i], x))
	}
	return sum
}

func greatestOf(list []*big.Rat) *big.Rat {
	return slices.MaxFunc(list, (*big.Rat).Cmp)
}

// exactReplies returns the choices that get the most.
func exactReplies(g game, player int, mix []*big.Rat) []int64 {
	gets, replies := exactGets(g, player, mix), []int64{}
	for own, x := range gets {
		if x.Cmp(greatestOf(gets)) == 0 {
			replies = append(replies, int64(own))
		}
	}
	return replies
}

// exactEquilibrium holds the payoffs of both players against the most that a choice gets: this is
// another condition for an equilibrium.
func exactEquilibrium(g game, x, y []*big.Rat) bool {
	return exactPayoff(g, 0, x, y).Cmp(greatestOf(exactGets(g, 0, y))) == 0 && exactPayoff(g, 1, y, x).Cmp(greatestOf(exactGets(g, 1, x))) == 0
}

func exactGameProblem(g game) problem {
	k, l := len(g.A), len(g.A[0])
	p := squareOf(k+l, 0)
	for i := range k {
		for j := range l {
			p.M[i][k+j], p.M[k+j][i] = -g.A[i][j], -g.B[i][j]
		}
	}
	for i := range p.Q {
		p.Q[i] = 1
	}
	return p
}

// exactMixes divides the numbers z of each player by their sum, and returns nil if a sum is 0.
func exactMixes(z []*big.Rat, k int) []*big.Rat {
	list := []*big.Rat{}
	for _, part := range [][]*big.Rat{z[:k], z[k:]} {
		sum := new(big.Rat)
		for _, x := range part {
			sum.Add(sum, x)
		}
		if sum.Sign() == 0 {
			return nil
		}
		for _, x := range part {
			list = append(list, new(big.Rat).Quo(x, sum))
		}
	}
	return list
}

// exactBySets returns the equilibria of all feasible sets but the empty one, in the order of the sets.
func exactBySets(g game) [][]*big.Rat {
	p, all := exactGameProblem(g), [][]*big.Rat{}
	for _, s := range allSets(len(p.Q))[1:] {
		point := exactPoint(p, s)
		if point == nil || slices.ContainsFunc(point, func(x *big.Rat) bool { return x.Sign() < 0 }) {
			continue
		}
		for i := range point {
			if s>>i&1 == 0 {
				point[i] = new(big.Rat)
			}
		}
		mixes := exactMixes(point, len(g.A))
		if mixes != nil {
			all = append(all, mixes)
		}
	}
	return all
}

func withoutRepeated(all [][]*big.Rat) [][]*big.Rat {
	list := [][]*big.Rat{}
	for _, mixes := range all {
		if !slices.ContainsFunc(list, func(other []*big.Rat) bool { return compareRats(other, mixes) == 0 }) {
			list = append(list, mixes)
		}
	}
	return list
}

// exactLabel follows the method for a label with the keys found anew from the equations after each
// step, and returns the equilibrium and the steps.
func exactLabel(g game, a int64) ([]*big.Rat, rows) {
	p := exactGameProblem(g)
	n := int64(len(p.Q))
	basis, steps := []int64{}, rows{}
	for i := range n {
		basis = append(basis, i)
	}
	for entering := n + a; ; {
		factors := exactlySolved(p, nil, basis, columnOfVariable(p, nil, entering))
		row := exactLeast(exactKeys(p, nil, basis), factors)
		leaving := basis[row]
		basis[row] = entering
		steps = append(steps, []int64{entering, leaving})
		if leaving%n == a {
			break
		}
		entering = (leaving + n) % (2 * n)
	}
	z := zerosOf(int(n))
	for i, x := range exactlySolved(p, nil, basis, p.Q) {
		if basis[i] >= n {
			z[basis[i]-n] = x
		}
	}
	return exactMixes(z, len(g.A)), steps
}

// exactRemaining takes out all choices at once for which another one always gets more, and so on; what
// remains does not depend on the order.
func exactRemaining(g game) (rowList, columnList []int64) {
	rowList, columnList = []int64{0, 1, 2, 3}[:len(g.A)], []int64{0, 1, 2, 3}[:len(g.A[0])]
	for again := true; again; {
		keptRows, keptColumns := []int64{}, []int64{}
		for _, i := range rowList {
			if !slices.ContainsFunc(rowList, func(h int64) bool {
				return !slices.ContainsFunc(columnList, func(j int64) bool { return g.A[h][j] <= g.A[i][j] })
			}) {
				keptRows = append(keptRows, i)
			}
		}
		for _, j := range columnList {
			if !slices.ContainsFunc(columnList, func(h int64) bool {
				return !slices.ContainsFunc(rowList, func(i int64) bool { return g.B[i][h] <= g.B[i][j] })
			}) {
				keptColumns = append(keptColumns, j)
			}
		}
		again = len(keptRows) < len(rowList) || len(keptColumns) < len(columnList)
		rowList, columnList = keptRows, keptColumns
	}
	return rowList, columnList
}

// callGame calls all functions of chapter 7 that take a game alone.
func callGame(g game) []reply {
	p, a := impl.GameProblem(g)
	pure, b := impl.PureEquilibria(g)
	list, c := impl.EquilibriaBySets(g)
	rowList, columnList, d := impl.RemainingChoices(g)
	exchanged, e := impl.ExchangePlayers(g)
	constant, f := impl.IsConstantSum(g)
	return []reply{
		{"GameProblem", []any{p}, isZeroProblem(p), a},
		{"PureEquilibria", []any{pure}, len(pure) == 0, b},
		{"EquilibriaBySets", []any{list}, len(list) == 0, c},
		{"RemainingChoices", []any{rowList, columnList}, len(rowList) == 0 && len(columnList) == 0, d},
		{"ExchangePlayers", []any{exchanged}, len(exchanged.A) == 0 && len(exchanged.B) == 0, e},
		{"IsConstantSum", []any{constant}, !constant, f},
	}
}

func callReplies(g game, player int64, mix []frac) []reply {
	replies, code := impl.BestReplies(g, player, mix)
	return []reply{{"BestReplies", []any{replies}, len(replies) == 0, code}}
}

func callPayoffs(g game, x, y []frac) []reply {
	first, second, code := impl.PayoffsAt(g, x, y)
	return []reply{{"PayoffsAt", []any{first, second}, first == frac{} && second == frac{}, code}}
}

// callMixes calls all functions that take two mixes.
func callMixes(g game, x, y []frac) []reply {
	yes, code := impl.IsEquilibrium(g, x, y)
	return append(callPayoffs(g, x, y), reply{"IsEquilibrium", []any{yes}, !yes, code})
}

func callLabel(g game, a int64) []reply {
	list, steps, code := impl.LemkeHowson(g, a)
	return []reply{{"LemkeHowson", []any{list, steps}, len(list) == 0 && steps == 0, code}}
}

func TestIsGame(t *testing.T) {
	for _, g := range someGames(300) {
		if !impl.IsGame(g) {
			t.Errorf("IsGame(%v) = false", g)
		}
	}
	for name, g := range invalidGames() {
		if impl.IsGame(g) {
			t.Errorf("%s: IsGame(%v) = true", name, g)
		}
	}
}

// TestNumbersOfGames puts each number at each place of both tables, for all shapes.
func TestNumbersOfGames(t *testing.T) {
	allowed := map[int64]bool{
		1: true, 2: true, impl.MaxEntry - 1: true, impl.MaxEntry: true,
		0: false, -1: false, impl.MaxEntry + 1: false, 100: false, 1 << 32: false, 1<<32 + 1: false,
		leastInt: false, leastInt + 1: false, greatestInt: false,
	}
	for _, shape := range gameShapes() {
		g := evenGame(shape[0], shape[1], 1, impl.MaxEntry)
		for _, table := range []rows{g.A, g.B} {
			for _, row := range table {
				for j, kept := range row {
					for x, yes := range allowed {
						row[j] = x
						if impl.IsGame(g) != yes {
							t.Errorf("IsGame(%v) = %v", g, !yes)
						}
					}
					row[j] = kept
				}
			}
		}
	}
}

// TestShapesOfGames has all tables of up to six rows and columns, and two tables of different shapes.
func TestShapesOfGames(t *testing.T) {
	shapes := gameShapes()
	if len(shapes) != 10 {
		t.Fatalf("%d shapes", len(shapes))
	}
	for k := range 7 {
		for l := range 7 {
			g := evenGame(k, l, 1, 1)
			want := slices.Contains(shapes, [2]int{k, l})
			if impl.IsGame(g) != want {
				t.Errorf("IsGame(%v) = %v", g, !want)
			}
			for _, shape := range shapes {
				other := evenGame(shape[0], shape[1], 1, 1)
				same := shape == [2]int{k, l}
				if impl.IsGame(game{A: g.A, B: other.B}) != same || impl.IsGame(game{A: other.A, B: g.B}) != same {
					t.Errorf("IsGame of %d, %d and %v is not %v", k, l, shape, same)
				}
			}
		}
	}
}

// TestInvalidGames gives other arguments that are wrong too: ErrInvalid comes first.
func TestInvalidGames(t *testing.T) {
	lists := [][]frac{nil, {}, wholes(1), wholes(1, 0), mixOf(1, 1), wholes(1, 0, 0), mixOf(1, 30000), {{}}, {{Num: 2, Den: 4}, {Num: 1, Den: 2}}, wholes(2), wholes(-1, 2)}
	for name, g := range invalidGames() {
		checkRefused(t, name, callGame(g), impl.ErrInvalid)
		for _, x := range lists {
			for _, y := range lists {
				checkRefused(t, name, callMixes(g, x, y), impl.ErrInvalid)
			}
			for _, player := range []int64{0, 1, 2, -1, leastInt, greatestInt} {
				checkRefused(t, name, callReplies(g, player, x), impl.ErrInvalid)
			}
		}
		for _, a := range []int64{0, 1, 4, 5, -1, leastInt, greatestInt} {
			checkRefused(t, name, callLabel(g, a), impl.ErrInvalid)
		}
	}
}

func TestGameProblem(t *testing.T) {
	for _, c := range []struct{ a, b, want string }{
		{"3,1;1,2", "2,1;1,3", "0,0,-3,-1;0,0,-1,-2;-2,-1,0,0;-1,-3,0,0/1,1,1,1"},
		{"7", "3", "0,-7;-3,0/1,1"},
		{"20", "1", "0,-20;-1,0/1,1"},
		{"1,2,3,4", "5,6,7,8", "0,-1,-2,-3,-4;-5,0,0,0,0;-6,0,0,0,0;-7,0,0,0,0;-8,0,0,0,0/1,1,1,1,1"},
		{"1;2;3;4", "5;6;7;8", "0,0,0,0,-1;0,0,0,0,-2;0,0,0,0,-3;0,0,0,0,-4;-5,-6,-7,-8,0/1,1,1,1,1"},
		{"1,2,3;4,5,6", "7,8,9;10,11,12", "0,0,-1,-2,-3;0,0,-4,-5,-6;-7,-10,0,0,0;-8,-11,0,0,0;-9,-12,0,0,0/1,1,1,1,1"},
		{"1,2;3,4;5,6", "7,8;9,10;11,12", "0,0,0,-1,-2;0,0,0,-3,-4;0,0,0,-5,-6;-7,-9,-11,0,0;-8,-10,-12,0,0/1,1,1,1,1"},
	} {
		p, code := impl.GameProblem(gameFrom(c.a, c.b))
		if text, _ := impl.ProblemText(p); text != c.want || code != impl.ErrNone {
			t.Errorf("GameProblem(%s, %s) = %q, %d", c.a, c.b, text, code)
		}
	}
	for _, g := range someGames(300) {
		p, code := impl.GameProblem(g)
		if !impl.IsProblem(p) || !sameProblems(p, exactGameProblem(g)) || code != impl.ErrNone {
			t.Errorf("GameProblem(%v) = %v, %d", g, p, code)
		}
	}
}

func TestPureEquilibria(t *testing.T) {
	for _, c := range []struct{ a, b, want string }{
		{"7", "3", "0,0"},
		// None, one, and two.
		{"2,1;1,2", "1,2;2,1", ""},
		{"3,1;4,2", "3,4;1,2", "1,1"},
		{"3,1;1,2", "2,1;1,3", "0,0;1,1"},
		{"1,3;2,1", "1,2;3,1", "0,1;1,0"},
		// One player alone chooses.
		{"5,5,2,5", "1,3,3,2", "0,1;0,2"},
		{"5;9;9;1", "20;1;20;1", "1,0;2,0"},
		{"1,1,1,1", "4,3,2,1", "0,0"},
		{"1;2;3;4", "1;1;1;1", "3,0"},
		// Ties in rows and in columns: all, or those that remain.
		{"1,1;1,1", "1,1;1,1", "0,0;0,1;1,0;1,1"},
		{"20,20,20;20,20,20", "20,20,20;20,20,20", "0,0;0,1;0,2;1,0;1,1;1,2"},
		{"1,1;1,1;1,1", "2,1;1,1;1,2", "0,0;1,0;1,1;2,1"},
		{"2,1;2,2", "1,1;1,1", "0,0;1,0;1,1"},
		{"2,1;1,1", "1,1;1,2", "0,0;0,1;1,1"},
		{"2,1;2,1", "1,2;2,1", "0,1;1,0"},
		// A tie that is not at the top helps none.
		{"1,2;1,3;2,1", "2,2;2,1;3,4", ""},
		{"4,4;3,6;1,7", "3,2;2,6;3,1", "0,0"},
		{"3,4,2;4,2,4", "1,3,2;3,1,2", "0,1;1,0"},
		{"1,20;20,1", "20,1;1,20", ""},
	} {
		got, code := impl.PureEquilibria(gameFrom(c.a, c.b))
		if !sameRows(got, rowsOrNone(c.want)) || code != impl.ErrNone {
			t.Errorf("PureEquilibria(%s, %s) = %v, %d, want %s", c.a, c.b, got, code, c.want)
		}
	}
}

// TestPureEquilibriaAreEquilibria is promise 7, the second part; and all other pairs of choices are none.
func TestPureEquilibriaAreEquilibria(t *testing.T) {
	counts := map[int]int{}
	for _, g := range someGames(1500) {
		list, code := impl.PureEquilibria(g)
		if code != impl.ErrNone {
			t.Fatalf("PureEquilibria(%v): code %d", g, code)
		}
		counts[min(len(list), 4)]++
		bySets, _ := impl.EquilibriaBySets(g)
		found := rows{}
		for i := range g.A {
			for j := range g.A[i] {
				parts, others := make([]int64, len(g.A)), make([]int64, len(g.A[0]))
				parts[i], others[j] = 1, 1
				x, y := mixOf(parts...), mixOf(others...)
				want := exactEquilibrium(g, ratsOf(x), ratsOf(y))
				if yes, code := impl.IsEquilibrium(g, x, y); yes != want || code != impl.ErrNone {
					t.Errorf("IsEquilibrium(%v, %v, %v) = %v, %d", g, x, y, yes, code)
				}
				if !want {
					continue
				}
				found = append(found, []int64{int64(i), int64(j)})
				if !slices.ContainsFunc(bySets, func(e []frac) bool { return slices.Equal(e, slices.Concat(x, y)) }) {
					t.Errorf("EquilibriaBySets(%v) = %v has not %v", g, bySets, found)
				}
			}
		}
		if !sameRows(list, found) {
			t.Errorf("PureEquilibria(%v) = %v, want %v", g, list, found)
		}
	}
	if min(counts[0], counts[1], counts[2], counts[3], counts[4]) < 20 {
		t.Errorf("only %v by the number of pure equilibria", counts)
	}
}

func TestEquilibriaBySets(t *testing.T) {
	for _, c := range []struct{ a, b, want string }{
		{"7", "3", "1 1"},
		{"2,1;1,2", "1,2;2,1", "1/2 1/2 1/2 1/2"},
		{"20,1;1,19", "1,20;18,1", "17/36 19/36 18/37 19/37"},
		{"3,1;4,2", "3,4;1,2", "0 1 0 1"},
		// In the order of the sets, which is not that of the mixes.
		{"3,1;1,2", "2,1;1,3", "1 0 1 0;0 1 0 1;2/3 1/3 1/3 2/3"},
		{"4,4;3,6;1,7", "3,2;2,6;3,1", "1 0 0 1 0;4/5 1/5 0 2/3 1/3;0 1/3 2/3 1/3 2/3"},
		{"3,4,2;4,2,4", "1,3,2;3,1,2", "0 1 1 0 0;1 0 0 1 0;1/2 1/2 2/3 1/3 0;1/2 1/2 0 1/2 1/2"},
		{"2,1,2;1,2,2", "1,2,1;2,1,1", "1/2 1/2 1/2 1/2 0"},
		{"5,5,2,5", "1,3,3,2", "1 0 1 0 0;1 0 0 1 0"},
		{"5;9;9;1", "20;1;20;1", "0 1 0 0 1;0 0 1 0 1"},
		// Degenerate ones.
		{"4,4;3,6;1,7", "3,3;2,6;3,1", "1 0 0 1 0;1 0 0 2/3 1/3;0 1/3 2/3 1/3 2/3"},
		{"1,1;1,1", "1,1;1,1", "1 0 1 0;0 1 1 0;1 0 0 1;0 1 0 1"},
		{"1,1;1,1", "1,2;1,2", "1 0 0 1;0 1 0 1"},
		// Here the set 27, and there the sets 15 and 23, have equilibria: some as a lesser set has them.
		{"2,2;1,2;2,1", "1,1;1,2;1,1", "1 0 0 1 0;0 0 1 1 0;1 0 0 0 1;0 1 0 0 1"},
		{"1,2,3;2,2,3", "2,1,3;3,3,2", "0 1 1 0 0;0 1 0 1 0;1 0 0 0 1;1/2 1/2 0 0 1"},
	} {
		list, code := impl.EquilibriaBySets(gameFrom(c.a, c.b))
		if got := solutionsText(t, list); got != c.want || code != impl.ErrNone {
			t.Errorf("EquilibriaBySets(%s, %s) = %q, %d, want %q", c.a, c.b, got, code, c.want)
		}
	}
}

// checkMixesOf looks whether a list has two mixes, one behind the other, that are an equilibrium, by the
// program and apart from it, and whether best replies get the payoff of the player.
func checkMixesOf(t *testing.T, g game, list []frac) {
	t.Helper()
	k := len(g.A)
	if len(list) != k+len(g.A[0]) {
		t.Fatalf("%v of %v are no two mixes", list, g)
	}
	x, y := list[:k], list[k:]
	for _, mix := range [][]frac{x, y} {
		sum := new(big.Rat)
		for _, a := range mix {
			if !impl.IsFrac(a) || a.Num < 0 {
				t.Fatalf("%v of %v is no mix", mix, g)
			}
			sum.Add(sum, ratOf(a))
		}
		if sum.Cmp(big.NewRat(1, 1)) != 0 {
			t.Errorf("%v of %v has the sum %v", mix, g, sum)
		}
	}
	if yes, code := impl.IsEquilibrium(g, x, y); !yes || code != impl.ErrNone || !exactEquilibrium(g, ratsOf(x), ratsOf(y)) {
		t.Errorf("IsEquilibrium(%v, %v, %v) = %v, %d", g, x, y, yes, code)
	}
	first, second, code := impl.PayoffsAt(g, x, y)
	if code != impl.ErrNone {
		t.Errorf("PayoffsAt(%v, %v, %v): code %d", g, x, y, code)
	}
	for player, payoff := range []frac{first, second} {
		own, other := list[:k], list[k:]
		if player == 1 {
			own, other = other, own
		}
		gets := exactGets(g, player, ratsOf(other))
		replies, _ := impl.BestReplies(g, int64(player), other)
		for _, i := range replies {
			if gets[i].Cmp(ratOf(payoff)) != 0 {
				t.Errorf("%v of %v: the best reply %d gets %v, and the player %v", list, g, i, gets[i], payoff)
			}
		}
		for i, a := range own {
			if a.Num > 0 && !slices.Contains(replies, int64(i)) {
				t.Errorf("%v of %v: %d is none of the best replies %v", list, g, i, replies)
			}
		}
	}
}

// TestEquilibriaBySetsAreEquilibria is promise 7, the first part. A game that is not degenerate has an
// odd number of them.
func TestEquilibriaBySetsAreEquilibria(t *testing.T) {
	counts, mixed, odd := map[int]int{}, 0, 0
	for _, g := range someGames(1500) {
		list, code := impl.EquilibriaBySets(g)
		if code != impl.ErrNone || len(list) == 0 {
			t.Fatalf("EquilibriaBySets(%v) = %v, %d", g, list, code)
		}
		for i, e := range list {
			checkMixesOf(t, g, e)
			if slices.ContainsFunc(list[:i], func(other []frac) bool { return slices.Equal(other, e) }) {
				t.Errorf("EquilibriaBySets(%v) has %v twice", g, e)
			}
			if slices.ContainsFunc(e, func(a frac) bool { return a.Den > 1 }) {
				mixed++
			}
		}
		counts[min(len(list), 4)]++
		p, _ := impl.GameProblem(g)
		if degenerate, _ := impl.IsDegenerate(p); !degenerate {
			odd++
			if len(list)%2 == 0 {
				t.Errorf("EquilibriaBySets(%v) = %v: an even number of a game that is not degenerate", g, list)
			}
		}
	}
	if min(counts[1], counts[2], counts[3], counts[4]) < 30 || mixed < 100 || odd < 100 {
		t.Errorf("only %v by the number of equilibria, %d mixed ones, %d games that are not degenerate", counts, mixed, odd)
	}
}

// TestEquilibriaAgainstExactOnes has them in the order of the first sets too.
func TestEquilibriaAgainstExactOnes(t *testing.T) {
	repeated, unsorted := 0, 0
	for _, g := range someGames(600) {
		all := exactBySets(g)
		want := withoutRepeated(all)
		list, code := impl.EquilibriaBySets(g)
		if len(list) != len(want) || code != impl.ErrNone {
			t.Errorf("EquilibriaBySets(%v) = %v, %d, want %v", g, list, code, want)
			continue
		}
		for i, e := range list {
			if !sameFracs(e, want[i]) {
				t.Errorf("EquilibriaBySets(%v) = %v, want %v", g, list, want)
			}
		}
		if len(want) < len(all) {
			repeated++
		}
		if !slices.IsSortedFunc(want, compareRats) {
			unsorted++
		}
	}
	if repeated < 20 || unsorted < 100 {
		t.Errorf("only %d games with sets that have the same one, %d in another order", repeated, unsorted)
	}
}

// TestBasicSetsOfGames: a basic set has as many rows as columns, and at least one of each but for the
// empty set; so no point has only 0 as the z of one player.
func TestBasicSetsOfGames(t *testing.T) {
	for _, g := range someGames(300) {
		p, _ := impl.GameProblem(g)
		sets, code := impl.BasicSets(p)
		if len(sets) == 0 || sets[0] != 0 || code != impl.ErrNone {
			t.Errorf("BasicSets(%v) = %v, %d", p, sets, code)
		}
		for _, s := range sets {
			below := int64(1)<<len(g.A) - 1
			if countOf(s&below) != countOf(s&^below) {
				t.Errorf("BasicSets(%v) = %v", p, sets)
			}
		}
	}
}

func TestBestReplies(t *testing.T) {
	const coordination, other = "3,1;1,2", "2,1;1,3"
	for _, c := range []struct {
		a, b   string
		player int64
		mix    []frac
		want   []int64
	}{
		{"7", "3", 0, wholes(1), []int64{0}},
		{"7", "3", 1, wholes(1), []int64{0}},
		{coordination, other, 0, wholes(1, 0), []int64{0}},
		{coordination, other, 0, wholes(0, 1), []int64{1}},
		{coordination, other, 1, wholes(1, 0), []int64{0}},
		{coordination, other, 1, wholes(0, 1), []int64{1}},
		// Just where it changes, and next to it on both sides.
		{coordination, other, 0, mixOf(1, 2), []int64{0, 1}},
		{coordination, other, 0, mixOf(333333333, 666666667), []int64{1}},
		{coordination, other, 0, mixOf(333333334, 666666666), []int64{0}},
		{coordination, other, 1, mixOf(2, 1), []int64{0, 1}},
		{coordination, other, 1, mixOf(1, 1), []int64{1}},
		{coordination, other, 1, mixOf(666666667, 333333333), []int64{0}},
		{coordination, other, 1, mixOf(666666666, 333333334), []int64{1}},
		// Each player has their own table, and the mix of the other one its own length.
		{"1,9,1;9,1,1", "4,5,6;6,5,4", 0, wholes(0, 1, 0), []int64{0}},
		{"1,9,1;9,1,1", "4,5,6;6,5,4", 0, wholes(0, 0, 1), []int64{0, 1}},
		{"1,9,1;9,1,1", "4,5,6;6,5,4", 0, mixOf(2, 1, 5), []int64{1}},
		{"1,9,1;9,1,1", "4,5,6;6,5,4", 1, mixOf(1, 1), []int64{0, 1, 2}},
		{"1,9,1;9,1,1", "4,5,6;6,5,4", 1, mixOf(1, 2), []int64{0}},
		{"1,9,1;9,1,1", "4,5,6;6,5,4", 1, mixOf(2, 1), []int64{2}},
		// One choice of the other player, and ties.
		{"5;9;9;1", "20;1;20;1", 0, wholes(1), []int64{1, 2}},
		{"5;9;9;1", "20;1;20;1", 1, mixOf(1, 1, 1, 1), []int64{0}},
		{"5,5,2,5", "1,3,3,2", 0, mixOf(1, 1, 1, 1), []int64{0}},
		{"5,5,2,5", "1,3,3,2", 1, wholes(1), []int64{1, 2}},
		{"1,1;1,1;1,1", "1,1;1,1;1,1", 0, mixOf(1, 6), []int64{0, 1, 2}},
		{"1;20;20;20", "1;1;1;1", 0, wholes(1), []int64{1, 2, 3}},
	} {
		got, code := impl.BestReplies(gameFrom(c.a, c.b), c.player, c.mix)
		if !slices.Equal(got, c.want) || code != impl.ErrNone {
			t.Errorf("BestReplies(%s, %s, %d, %v) = %v, %d, want %v", c.a, c.b, c.player, c.mix, got, code, c.want)
		}
	}
}

// TestRepliesAgainstExactOnes has both players, and looks at what two mixes get and whether they are an
// equilibrium.
func TestRepliesAgainstExactOnes(t *testing.T) {
	ties, limited, told := 0, 0, 0
	for i, g := range someGames(300) {
		xs, ys := someMixes(len(g.A), int64(i)), someMixes(len(g.A[0]), int64(1000+i))
		for player, mixes := range [][][]frac{ys, xs} {
			for _, mix := range mixes {
				want := exactReplies(g, player, ratsOf(mix))
				got, code := impl.BestReplies(g, int64(player), mix)
				if !slices.Equal(got, want) || code != impl.ErrNone {
					t.Errorf("BestReplies(%v, %d, %v) = %v, %d, want %v", g, player, mix, got, code, want)
				}
				if len(got) > 1 {
					ties++
				}
			}
		}
		for _, x := range xs {
			for _, y := range ys {
				want := exactEquilibrium(g, ratsOf(x), ratsOf(y))
				if yes, code := impl.IsEquilibrium(g, x, y); yes != want || code != impl.ErrNone {
					t.Errorf("IsEquilibrium(%v, %v, %v) = %v, %d", g, x, y, yes, code)
				}
				if checkPayoffs(t, g, x, y) {
					told++
				} else {
					limited++
				}
			}
		}
	}
	if min(ties, limited, told) < 500 {
		t.Errorf("only %d ties, %d payoffs beyond the limits, %d within them", ties, limited, told)
	}
}

func commonDen(list []frac) *big.Int {
	den := big.NewInt(1)
	for _, a := range list {
		divisor := new(big.Int).GCD(nil, nil, den, big.NewInt(a.Den))
		den.Mul(den, new(big.Int).Div(big.NewInt(a.Den), divisor))
	}
	return den
}

// checkPayoffs holds payoffs against exact ones, and returns whether they are within the limits.
func checkPayoffs(t *testing.T, g game, x, y []frac) bool {
	t.Helper()
	want := []*big.Rat{exactPayoff(g, 0, ratsOf(x), ratsOf(y)), exactPayoff(g, 1, ratsOf(y), ratsOf(x))}
	if commonDen(x).Cmp(big.NewInt(30000)) > 0 || commonDen(y).Cmp(big.NewInt(30000)) > 0 || isBeyond(want...) {
		checkRefused(t, "payoffs beyond the limits", callPayoffs(g, x, y), impl.ErrLimit)
		return false
	}
	first, second, code := impl.PayoffsAt(g, x, y)
	if !sameFracs([]frac{first, second}, want) || code != impl.ErrNone {
		t.Errorf("PayoffsAt(%v, %v, %v) = %v, %v, %d, want %v", g, x, y, first, second, code, want)
	}
	return true
}

func TestPayoffsAt(t *testing.T) {
	for _, c := range []struct {
		a, b, first, second string
		x, y                []frac
	}{
		{"7", "3", "7", "3", wholes(1), wholes(1)},
		{"3,1;1,2", "2,1;1,3", "5/3", "5/3", mixOf(2, 1), mixOf(1, 2)},
		{"2,1;1,2", "1,2;2,1", "3/2", "3/2", mixOf(1, 1), mixOf(1, 1)},
		{"1,2,3;4,5,6", "7,8,9;10,11,12", "6", "12", wholes(0, 1), wholes(0, 0, 1)},
		{"1,2,3;4,5,6", "7,8,9;10,11,12", "3", "9", wholes(1, 0), wholes(0, 0, 1)},
		{"1,2,3;4,5,6", "7,8,9;10,11,12", "4", "10", mixOf(1, 2), mixOf(1, 1, 1)},
		{"5,5,2,5", "1,3,3,2", "17/4", "9/4", wholes(1), mixOf(1, 1, 1, 1)},
		{"5;9;9;1", "20;1;20;1", "33/5", "62/5", mixOf(1, 1, 2, 1), wholes(1)},
		{"20,20;20,20", "20,20;20,20", "20", "20", mixOf(1, 29999), mixOf(7, 29993)},
		// The greatest common denominators, of one fraction and of several.
		{"1,2;2,1", "2,1;1,1", "3/2", "60001/60000", mixOf(1, 29999), mixOf(1, 1)},
		{"1,2,3", "3,2,1", "43117/15000", "16883/15000", wholes(1), mixOf(1875, 16, 28109)},
	} {
		g := gameFrom(c.a, c.b)
		first, second, code := impl.PayoffsAt(g, c.x, c.y)
		if got := textsOf(t, []frac{first, second}); got != c.first+" "+c.second || code != impl.ErrNone {
			t.Errorf("PayoffsAt(%v, %v, %v) = %q, %d", g, c.x, c.y, got, code)
		}
		checkPayoffs(t, g, c.x, c.y)
	}
}

// TestPayoffLimits has denominators and numbers of payoffs at the limits and just beyond them.
func TestPayoffLimits(t *testing.T) {
	wide, even := gameFrom("1,2,3", "3,2,1"), evenGame(2, 2, 20, 1)
	for _, c := range []struct {
		g      game
		x, y   []frac
		within bool
	}{
		{even, mixOf(1, 29999), mixOf(1, 29999), true},
		{even, mixOf(1, 30000), mixOf(1, 1), false},
		{even, mixOf(1, 1), mixOf(1, 30000), false},
		{even, mixOf(1, 30000), mixOf(1, 30000), false},
		{even, mixOf(1, impl.MaxFrac-1), wholes(1, 0), false},
		// Fractions with lesser denominators than the common one: 16 and 1875, 19 and 1579.
		{wide, wholes(1), mixOf(1875, 16, 28109), true},
		{wide, wholes(1), mixOf(1579, 19, 28403), false},
		{gameFrom("1;2;3", "3;2;1"), mixOf(1875, 16, 28109), wholes(1), true},
		{gameFrom("1;2;3", "3;2;1"), mixOf(1579, 19, 28403), wholes(1), false},
		// A Num of just MaxFrac, for each player, and beyond it for one of both alone.
		{gameFrom("1,1;3,2", "1,1;1,1"), mixOf(27286, 2623), mixOf(9748, 20205), true},
		{gameFrom("1,1;1,1", "1,1;3,2"), mixOf(27286, 2623), mixOf(9748, 20205), true},
		{gameFrom("1,1;1,3", "1,1;1,1"), mixOf(23424, 6569), mixOf(22297, 7680), false},
		{gameFrom("1,1;1,1", "1,1;1,3"), mixOf(23424, 6569), mixOf(22297, 7680), false},
		{gameFrom("1,1;1,3", "1,1;1,3"), mixOf(23424, 6569), mixOf(22297, 7680), false},
	} {
		if within := checkPayoffs(t, c.g, c.x, c.y); within != c.within {
			t.Errorf("payoffs of %v at %v, %v: within the limits is %v", c.g, c.x, c.y, within)
		}
		if _, code := impl.IsEquilibrium(c.g, c.x, c.y); code != impl.ErrNone {
			t.Errorf("IsEquilibrium(%v, %v, %v): code %d", c.g, c.x, c.y, code)
		}
	}
	first, second, code := impl.PayoffsAt(gameFrom("1,1;3,2", "1,1;1,1"), mixOf(27286, 2623), mixOf(9748, 20205))
	if first.Num != impl.MaxFrac || second != wholes(1)[0] || code != impl.ErrNone {
		t.Errorf("payoffs %v, %v, %d", first, second, code)
	}
}

// TestListsThatAreNoMixes gives each list in the place of each mix, with a mix, and with itself, as the
// other one. ErrRange comes ahead of ErrLimit.
func TestListsThatAreNoMixes(t *testing.T) {
	half, third := frac{Num: 1, Den: 2}, frac{Num: 1, Den: 3}
	zero, one := frac{Num: 0, Den: 1}, frac{Num: 1, Den: 1}
	pairs := [][]frac{
		nil, {}, {one}, {half, half, zero}, {one, zero, zero}, slices.Repeat([]frac{zero}, 200),
		// Another sum than 1.
		{zero, zero}, {one, one}, {half, third}, {half, zero}, {half, one}, {one, {Num: 1, Den: impl.MaxFrac}},
		{{Num: impl.MaxFrac - 1, Den: impl.MaxFrac}, zero}, {{Num: impl.MaxFrac, Den: 1}, zero}, {{Num: impl.MaxFrac, Den: 1}, {Num: 1, Den: impl.MaxFrac}},
		{{Num: 1, Den: 65536}, {Num: 1, Den: 59049}}, {{Num: 1, Den: impl.MaxFrac}, {Num: 1, Den: impl.MaxFrac - 1}},
		// A fraction below 0, with the sum 1.
		{{Num: -1, Den: 1}, {Num: 2, Den: 1}}, {{Num: 2, Den: 1}, {Num: -1, Den: 1}}, {{Num: -1, Den: 2}, {Num: 3, Den: 2}},
		{{Num: 1 - impl.MaxFrac, Den: 1}, {Num: impl.MaxFrac, Den: 1}},
		// Not in lowest terms, though the sum is 1.
		{{Num: 2, Den: 4}, half}, {half, {Num: 2, Den: 4}}, {one, {Num: 0, Den: 2}}, {{Num: 2, Den: 2}, zero}, {{Num: -1, Den: -2}, half}, {one, {}}, {{}, one},
		// Beyond the limits, though the sum is 1.
		{{Num: 1, Den: impl.MaxFrac + 1}, {Num: impl.MaxFrac, Den: impl.MaxFrac + 1}},
		{{Num: -impl.MaxFrac, Den: 1}, {Num: impl.MaxFrac + 1, Den: 1}}, {{Num: leastInt, Den: leastInt}, zero}, {{Num: greatestInt, Den: greatestInt}, zero},
	}
	for _, a := range invalidFracs() {
		pairs = append(pairs, []frac{a, one}, []frac{one, a}, []frac{a, zero}, []frac{a, a})
	}
	for _, list := range pairs {
		for _, g := range []game{pennies(), evenGame(2, 2, 1, 1)} {
			for _, mix := range [][]frac{{half, half}, {one, zero}, mixOf(1, 30000), list} {
				checkRefused(t, "no mix", callMixes(g, list, mix), impl.ErrRange)
				checkRefused(t, "no mix", callMixes(g, mix, list), impl.ErrRange)
			}
			for _, player := range []int64{0, 1} {
				checkRefused(t, "no mix", callReplies(g, player, list), impl.ErrRange)
			}
		}
	}
}

// TestCommonDenominatorsOfMixes has three fractions with the sum 1: the least common denominator is
// 1000000000 in one list, and 1000000001 in another one, though all fractions are within the limits.
func TestCommonDenominatorsOfMixes(t *testing.T) {
	row, column := gameFrom("1,2,3", "3,2,1"), gameFrom("3;2;1", "1;2;3")
	for text, ok := range map[string]bool{
		"1/512 1/1953125 998046363/1000000000":       true,
		"1/1000000000 999999999/1000000000 0":        true,
		"0 1/999999999 999999998/999999999":          true,
		"1/999000 1/1001000 999997/999999":           true,
		"1/19019 1/999001 52628759/52631579":         false,
		"1/997997 501/1004003 999491/999991":         false,
		"999491/999991 1/997997 501/1004003":         false,
		"1/512 1/1953125 998046362/1000000000":       false,
		"499999999/1000000000 1/1000000000 1/2":      true,
		"500000001/1000000000 1/1000000000 1/2":      false,
		"333333333/1000000000 333333333/500000000 0": false,
	} {
		mix, code := fracsIn(t, text), int64(impl.ErrNone)
		if !ok {
			code = impl.ErrRange
		}
		for _, a := range mix {
			if !impl.IsFrac(a) {
				t.Fatalf("%v is no fraction", a)
			}
		}
		replies := slices.Concat(callReplies(row, 0, mix), callReplies(column, 1, mix))
		_, a := impl.IsEquilibrium(row, wholes(1), mix)
		_, b := impl.IsEquilibrium(column, mix, wholes(1))
		if replies[0].code != code || replies[1].code != code || a != code || b != code {
			t.Errorf("%s: codes of %v, %d, %d, want %d", text, replies, a, b, code)
		}
		if ok {
			code = impl.ErrLimit
		}
		checkRefused(t, text, slices.Concat(callPayoffs(row, wholes(1), mix), callPayoffs(column, mix, wholes(1))), code)
	}
}

// TestMixesOfOtherLengths has lists of all lengths in the place of each mix, for all shapes.
func TestMixesOfOtherLengths(t *testing.T) {
	for _, shape := range gameShapes() {
		g := evenGame(shape[0], shape[1], 2, 3)
		for n := range 7 {
			for player := range 2 {
				mixes := [2][]frac{wholes(1, 0, 0, 0)[:shape[0]], wholes(1, 0, 0, 0)[:shape[1]]}
				mixes[player] = wholes(1, 0, 0, 0, 0, 0, 0)[:n]
				replies := append(callMixes(g, mixes[0], mixes[1]), callReplies(g, int64(1-player), mixes[player])...)
				if n != shape[player] {
					checkRefused(t, "another length", replies, impl.ErrRange)
					continue
				}
				for _, answer := range replies {
					if answer.code != impl.ErrNone {
						t.Errorf("%v, %v: %s = %v, %d", g, mixes, answer.name, answer.result, answer.code)
					}
				}
			}
		}
	}
}

func TestPlayersOutOfRange(t *testing.T) {
	for _, player := range []int64{-1, -2, 2, 3, 1 << 32, 1<<32 + 1, leastInt, leastInt + 1, greatestInt} {
		for _, mix := range [][]frac{mixOf(1, 1), wholes(1, 0), nil, wholes(1), mixOf(1, 30000)} {
			checkRefused(t, "no player", callReplies(pennies(), player, mix), impl.ErrRange)
		}
		checkRefused(t, "no player", callReplies(gameFrom("1", "1"), player, wholes(1)), impl.ErrRange)
	}
}

func TestIsEquilibrium(t *testing.T) {
	degenerate, example := gameFrom("4,4;3,6;1,7", "3,3;2,6;3,1"), gameFrom("4,4;3,6;1,7", "3,2;2,6;3,1")
	for _, c := range []struct {
		g    game
		x, y []frac
		want bool
	}{
		{gameFrom("7", "3"), wholes(1), wholes(1), true},
		{pennies(), mixOf(1, 1), mixOf(1, 1), true},
		// One player could do better, or the other one, or both.
		{pennies(), mixOf(1, 1), mixOf(499999999, 500000001), false},
		{pennies(), mixOf(500000001, 499999999), mixOf(1, 1), false},
		{pennies(), wholes(1, 0), mixOf(1, 1), false},
		{pennies(), mixOf(1, 1), wholes(0, 1), false},
		{pennies(), wholes(1, 0), wholes(0, 1), false},
		{pennies(), wholes(1, 0), wholes(1, 0), false},
		{gameFrom("3,1;1,2", "2,1;1,3"), mixOf(2, 1), mixOf(1, 2), true},
		{gameFrom("3,1;1,2", "2,1;1,3"), mixOf(1, 2), mixOf(2, 1), false},
		{gameFrom("3,1;1,2", "2,1;1,3"), mixOf(1, 2), mixOf(1, 2), false},
		{gameFrom("3,1;1,2", "2,1;1,3"), mixOf(2, 1), mixOf(2, 1), false},
		{gameFrom("3,1;1,2", "2,1;1,3"), wholes(0, 1), wholes(0, 1), true},
		{gameFrom("3,1;1,2", "2,1;1,3"), wholes(0, 1), wholes(1, 0), false},
		{example, wholes(1, 0, 0), wholes(1, 0), true},
		{example, mixOf(4, 1, 0), mixOf(2, 1), true},
		{example, mixOf(0, 1, 2), mixOf(1, 2), true},
		{example, mixOf(4, 1, 0), mixOf(1, 2), false},
		{example, mixOf(0, 1, 2), mixOf(2, 1), false},
		// Equilibria that no set has: between two that sets have, and beyond the last one.
		{degenerate, wholes(1, 0, 0), mixOf(2, 1), true},
		{degenerate, wholes(1, 0, 0), mixOf(5, 1), true},
		{degenerate, wholes(1, 0, 0), mixOf(666666667, 333333333), true},
		{degenerate, wholes(1, 0, 0), mixOf(666666666, 333333334), false},
		{evenGame(2, 3, 1, 20), mixOf(1, 999999999), mixOf(123, 0, 456), true},
		// A choice that gets nothing of the mix need be no best reply.
		{gameFrom("2,1;1,1", "2,1;1,1"), wholes(1, 0), wholes(1, 0), true},
		{gameFrom("5,5,2,5", "1,3,3,2"), wholes(1), mixOf(0, 1, 6, 0), true},
		{gameFrom("5,5,2,5", "1,3,3,2"), wholes(1), mixOf(0, 1, 6, 1), false},
	} {
		if yes, code := impl.IsEquilibrium(c.g, c.x, c.y); yes != c.want || code != impl.ErrNone || exactEquilibrium(c.g, ratsOf(c.x), ratsOf(c.y)) != c.want {
			t.Errorf("IsEquilibrium(%v, %v, %v) = %v, %d", c.g, c.x, c.y, yes, code)
		}
	}
}

func TestLemkeHowson(t *testing.T) {
	for _, c := range []struct{ a, b, want string }{
		{"7", "3", "1 1: 2;1 1: 2"},
		{"3,1;1,2", "2,1;1,3", "1 0 1 0: 2;0 1 0 1: 2;1 0 1 0: 2;0 1 0 1: 2"},
		{"2,1;1,2", "1,2;2,1", "1/2 1/2 1/2 1/2: 4;1/2 1/2 1/2 1/2: 4;1/2 1/2 1/2 1/2: 4;1/2 1/2 1/2 1/2: 4"},
		// Two of three equilibria are met; for the label 2 it ends as z(2) leaves.
		{"4,4;3,6;1,7", "3,2;2,6;3,1", "1 0 0 1 0: 2;0 1/3 2/3 1/3 2/3: 4;1 0 0 1 0: 3;1 0 0 1 0: 2;0 1/3 2/3 1/3 2/3: 4"},
		// A degenerate one.
		{"4,4;3,6;1,7", "3,3;2,6;3,1", "0 1/3 2/3 1/3 2/3: 5;0 1/3 2/3 1/3 2/3: 4;0 1/3 2/3 1/3 2/3: 6;0 1/3 2/3 1/3 2/3: 6;0 1/3 2/3 1/3 2/3: 4"},
	} {
		checkLabels(t, gameFrom(c.a, c.b), strings.Split(c.want, ";"))
	}
	// In these the least row of a tie leads to another equilibrium, and so does the greatest one, that of
	// the least or greatest variable, and that of the greatest key.
	for _, c := range []struct {
		a, b  string
		label int64
		want  string
	}{
		{"2,2;1,2;2,1", "1,1;1,2;1,1", 3, "0 1 0 0 1: 7"},
		{"3,3;1,3;2,3", "1,2;2,1;2,3", 1, "0 0 1 0 1: 7"},
		{"1,2,3;2,2,3", "2,1,3;3,3,2", 0, "0 1 0 1 0: 7"},
		{"1,1,1;1,1,2", "2,1,2;2,2,1", 0, "0 1 0 1 0: 7"},
		{"2,2;1,2;3,1", "2,3;1,2;1,1", 3, "0 1 0 0 1: 7"},
	} {
		if got := labelText(t, gameFrom(c.a, c.b), c.label); got != c.want {
			t.Errorf("LemkeHowson(%s, %s, %d) = %q, want %q", c.a, c.b, c.label, got, c.want)
		}
	}
}

// labelText returns the equilibrium for a label, and the number of steps behind it.
func labelText(t *testing.T, g game, a int64) string {
	t.Helper()
	list, steps, code := impl.LemkeHowson(g, a)
	if code != impl.ErrNone {
		t.Fatalf("LemkeHowson(%v, %d): code %d", g, a, code)
	}
	return textsOf(t, list) + ": " + strconv.FormatInt(steps, 10)
}

// checkLabels looks at all labels of a game, and at numbers that are none.
func checkLabels(t *testing.T, g game, want []string) {
	t.Helper()
	for a, text := range want {
		if got := labelText(t, g, int64(a)); got != text {
			t.Errorf("LemkeHowson(%v, %d) = %q, want %q", g, a, got, text)
		}
	}
	n := int64(len(want))
	for _, a := range []int64{-1, -2, n, n + 1, 2*n - 1, 2 * n, 10, impl.MaxSteps, 1 << 32, 1 << 62, leastInt, leastInt + 1, greatestInt} {
		checkRefused(t, "label "+strconv.FormatInt(a, 10), callLabel(g, a), impl.ErrRange)
	}
}

func TestLabelsAgainstExactOnes(t *testing.T) {
	byZ, longest := 0, 0
	for _, g := range someGames(600) {
		want := []string{}
		for a := range len(g.A) + len(g.A[0]) {
			mixes, steps := exactLabel(g, int64(a))
			want = append(want, textsOf(t, fracsFrom(mixes))+": "+strconv.Itoa(len(steps)))
			longest = max(longest, len(steps))
			if steps[len(steps)-1][1] != int64(a) {
				byZ++
			}
		}
		checkLabels(t, g, want)
	}
	if byZ < 100 || longest < 7 {
		t.Errorf("only %d ends as z leaves, and %d steps", byZ, longest)
	}
}

// TestEquilibriaByLabelsAreEquilibria is promise 16; each one is one by sets too.
func TestEquilibriaByLabelsAreEquilibria(t *testing.T) {
	mixed, different := 0, 0
	for _, g := range someGames(1500) {
		bySets, _ := impl.EquilibriaBySets(g)
		first := []frac(nil)
		for a := range int64(len(g.A) + len(g.A[0])) {
			e, steps, code := impl.LemkeHowson(g, a)
			if steps < 2 || steps > impl.MaxSteps || code != impl.ErrNone {
				t.Fatalf("LemkeHowson(%v, %d) = %v, %d, %d", g, a, e, steps, code)
			}
			checkMixesOf(t, g, e)
			if !slices.ContainsFunc(bySets, func(other []frac) bool { return slices.Equal(other, e) }) {
				t.Errorf("LemkeHowson(%v, %d) = %v is none of %v", g, a, e, bySets)
			}
			if slices.ContainsFunc(e, func(x frac) bool { return x.Den > 1 }) {
				mixed++
			}
			if a == 0 {
				first = e
			} else if !slices.Equal(e, first) {
				different++
			}
		}
	}
	if mixed < 100 || different < 80 {
		t.Errorf("only %d mixed equilibria by labels, %d that differ from the first one", mixed, different)
	}
}

func TestRemainingChoices(t *testing.T) {
	for _, c := range []struct{ a, b, rows, columns string }{
		{"7", "3", "0", "0"},
		{"3,1;4,2", "3,4;1,2", "1", "1"},
		{"2,1;1,2", "1,2;2,1", "0,1", "0,1"},
		{"3,1;1,2", "2,1;1,3", "0,1", "0,1"},
		// One player alone chooses; of equal numbers none is greater.
		{"1;2;3;4", "1;1;1;1", "3", "0"},
		{"4;3;2;1", "1;2;3;4", "0", "0"},
		{"5;9;9;1", "20;1;20;1", "1,2", "0"},
		{"5,5,2,5", "1,3,3,2", "0", "1,2"},
		{"1,1,1,1", "4,3,2,1", "0", "0"},
		{"1,1;1,1", "1,1;1,1", "0,1", "0,1"},
		// Greater in all columns but one, where they are equal.
		{"2,1;1,1", "1,1;1,1", "0,1", "0,1"},
		{"2,2;1,1", "1,1;1,1", "0", "0,1"},
		{"1,1;1,1", "2,1;1,1", "0,1", "0,1"},
		{"1,1;1,1", "2,1;2,1", "0,1", "0"},
		// A column goes first, and only then a row; and the other way round.
		{"1,9;2,1", "2,1;2,1", "1", "0"},
		{"2,2;1,1", "1,2;2,1", "0", "1"},
		// By turns: a column, a row and a column, or a row, a column and a row.
		{"1,2,9;9,3,1", "1,2,1;3,2,1", "1", "0"},
		{"4,4;5,5;1,9", "3,1;2,1;9,1", "1", "0"},
		{"1,2;3,1;2,2", "1,2;2,1;1,1", "0,1,2", "0,1"},
		// A row, and then two columns.
		{"1,2,3;2,3,4", "3,2,1;1,2,3", "1", "2"},
		{"2,3,4;1,2,3", "3,2,1;1,2,3", "0", "0"},
		// A row and a column could go: the row goes ahead of it.
		{"2,9;1,8", "1,2;1,2", "0", "1"},
		{"1,8;2,9", "2,1;2,1", "1", "0"},
		// A mix of two rows would get more than the third one, but no row does.
		{"9,1;1,9;4,4", "1,2;2,1;1,1", "0,1,2", "0,1"},
	} {
		rowList, columnList, code := impl.RemainingChoices(gameFrom(c.a, c.b))
		if !sameRows(rows{rowList, columnList}, rowsOf(c.rows+";"+c.columns)) || code != impl.ErrNone {
			t.Errorf("RemainingChoices(%s, %s) = %v, %v, %d", c.a, c.b, rowList, columnList, code)
		}
	}
}

// TestRemainingAgainstOnesAtOnce also looks that no equilibrium has a choice that is taken out.
func TestRemainingAgainstOnesAtOnce(t *testing.T) {
	counts := map[int]int{}
	for _, g := range someGames(1500) {
		rowList, columnList, code := impl.RemainingChoices(g)
		wantRows, wantColumns := exactRemaining(g)
		if !slices.Equal(rowList, wantRows) || !slices.Equal(columnList, wantColumns) || code != impl.ErrNone {
			t.Errorf("RemainingChoices(%v) = %v, %v, %d, want %v, %v", g, rowList, columnList, code, wantRows, wantColumns)
		}
		counts[len(g.A)+len(g.A[0])-len(rowList)-len(columnList)]++
		list, _ := impl.EquilibriaBySets(g)
		for _, e := range list {
			for i, a := range e {
				if a.Num > 0 && !slices.Contains(rowList, int64(i)) && !slices.Contains(columnList, int64(i-len(g.A))) {
					t.Errorf("RemainingChoices(%v) = %v, %v, but %v is an equilibrium", g, rowList, columnList, e)
				}
			}
		}
	}
	if min(counts[0], counts[1], counts[2], counts[3]) < 30 {
		t.Errorf("only %v by the number of choices taken out", counts)
	}
}

func sameGames(g, h game) bool {
	return sameRows(g.A, h.A) && sameRows(g.B, h.B)
}

func TestExchangePlayers(t *testing.T) {
	for _, c := range []struct{ a, b, wantA, wantB string }{
		{"7", "3", "3", "7"},
		{"3,1;1,2", "2,1;1,3", "2,1;1,3", "3,1;1,2"},
		{"1,2;3,4", "5,6;7,8", "5,7;6,8", "1,3;2,4"},
		{"1,2,3,4", "5,6,7,8", "5;6;7;8", "1;2;3;4"},
		{"1;2;3;4", "5;6;7;8", "5,6,7,8", "1,2,3,4"},
		{"1,2,3;4,5,6", "7,8,9;10,11,12", "7,10;8,11;9,12", "1,4;2,5;3,6"},
		{"1,2;3,4;5,6", "7,8;9,10;11,12", "7,9,11;8,10,12", "1,3,5;2,4,6"},
	} {
		got, code := impl.ExchangePlayers(gameFrom(c.a, c.b))
		if !sameGames(got, gameFrom(c.wantA, c.wantB)) || code != impl.ErrNone {
			t.Errorf("ExchangePlayers(%s, %s) = %v, %d", c.a, c.b, got, code)
		}
	}
}

// TestPlayersExchangedTwice also looks that what is told of both players is exchanged.
func TestPlayersExchangedTwice(t *testing.T) {
	for i, g := range someGames(600) {
		h, a := impl.ExchangePlayers(g)
		again, b := impl.ExchangePlayers(h)
		if !impl.IsGame(h) || !sameGames(again, g) || a != impl.ErrNone || b != impl.ErrNone {
			t.Fatalf("ExchangePlayers(%v) = %v, %d, then %v, %d", g, h, a, again, b)
		}
		list, _ := impl.EquilibriaBySets(g)
		others, _ := impl.EquilibriaBySets(h)
		for _, e := range list {
			turned := slices.Concat(e[len(g.A):], e[:len(g.A)])
			if !slices.ContainsFunc(others, func(other []frac) bool { return slices.Equal(other, turned) }) || len(others) != len(list) {
				t.Errorf("EquilibriaBySets(%v) = %v, and of players exchanged %v", g, list, others)
			}
		}
		for _, mix := range someMixes(len(g.A), int64(i)) {
			replies, _ := impl.BestReplies(g, 1, mix)
			others, code := impl.BestReplies(h, 0, mix)
			if !slices.Equal(replies, others) || code != impl.ErrNone {
				t.Errorf("BestReplies(%v, 1, %v) = %v, and of players exchanged %v, %d", g, mix, replies, others, code)
			}
		}
		constant, _ := impl.IsConstantSum(g)
		if same, _ := impl.IsConstantSum(h); same != constant {
			t.Errorf("IsConstantSum(%v) = %v, and of players exchanged %v", g, constant, same)
		}
	}
}

func TestIsConstantSum(t *testing.T) {
	for _, c := range []struct {
		a, b string
		want bool
	}{
		{"7", "3", true},
		{"20", "20", true},
		{"2,1;1,2", "1,2;2,1", true},
		{"3,1;1,2", "2,1;1,3", false},
		{"1,20;10,11", "20,1;11,10", true},
		{"1,2,3,4", "4,3,2,1", true},
		{"1;2;3;4", "4;3;2;1", true},
		{"1,1;1,1", "1,1;1,1", true},
		// One sum alone is another one, at each place.
		{"2,2;2,2", "1,2;2,2", false},
		{"2,2;2,2", "2,1;2,2", false},
		{"2,2;2,2", "2,2;1,2", false},
		{"2,2;2,2", "2,2;2,1", false},
		{"1,2,3;4,5,6", "9,8,7;6,5,3", false},
		{"1,2,3;4,5,6", "9,8,7;6,5,4", true},
		// Rows, or columns, or tables, with the same sum.
		{"1,2;1,2", "1,2;1,2", false},
		{"1,1;2,2", "1,1;2,2", false},
		{"1,2;2,1", "2,1;2,1", false},
	} {
		if got, code := impl.IsConstantSum(gameFrom(c.a, c.b)); got != c.want || code != impl.ErrNone {
			t.Errorf("IsConstantSum(%s, %s) = %v, %d", c.a, c.b, got, code)
		}
	}
}

// TestConstantSums makes games of this kind, of all shapes: in all their equilibria each player gets the
// same. Then each number in turn is changed.
func TestConstantSums(t *testing.T) {
	for _, g := range someGames(300) {
		for i, row := range g.A {
			for j, x := range row {
				row[j] = min(x, 19)
				g.B[i][j] = 20 - row[j]
			}
		}
		if got, code := impl.IsConstantSum(g); !got || code != impl.ErrNone {
			t.Errorf("IsConstantSum(%v) = %v, %d", g, got, code)
		}
		list, _ := impl.EquilibriaBySets(g)
		payoffs := map[frac]bool{}
		for _, e := range list {
			first, _, _ := impl.PayoffsAt(g, e[:len(g.A)], e[len(g.A):])
			payoffs[first] = true
		}
		if len(payoffs) != 1 {
			t.Errorf("%v: payoffs of the first player in equilibria %v", g, payoffs)
		}
		for i := range g.A {
			for j := range g.A[i] {
				g.A[i][j]++
				if got, _ := impl.IsConstantSum(g); got && len(g.A)*len(g.A[0]) > 1 {
					t.Errorf("IsConstantSum(%v) = true", g)
				}
				g.A[i][j]--
			}
		}
	}
}

// guardedGame returns a copy of a game with spare capacity, and a function that reports whether nothing
// of it has been changed.
func guardedGame(g game) (game, func() bool) {
	first, sameFirst := guardedProblem(problem{M: g.A})
	second, sameSecond := guardedProblem(problem{M: g.B})
	return game{A: first.M, B: second.M}, func() bool { return sameFirst() && sameSecond() }
}

// callAll calls all functions of chapter 7.
func callAll(g game, x, y []frac) []reply {
	list := append(callGame(g), callMixes(g, x, y)...)
	list = append(list, slices.Concat(callReplies(g, 0, y), callReplies(g, 1, x))...)
	for a := range int64(6) {
		list = append(list, callLabel(g, a)...)
	}
	return list
}

// TestGameCallsLeaveNothing: no argument is changed, and each call tells the same once more, also behind
// calls that end with errors.
func TestGameCallsLeaveNothing(t *testing.T) {
	for _, text := range [][2]string{{"4,4;3,6;1,7", "3,2;2,6;3,1"}, {"1,1;2,2;1,1", "1,2;1,2;1,2"}, {"9,9;1,1;1,1", "1,2;3,3;3,3"}} {
		g, same := guardedGame(gameFrom(text[0], text[1]))
		x, sameX := guarded(mixOf(4, 1, 2), frac{Num: 44, Den: 4})
		y, sameY := guarded(mixOf(2, 1), frac{Num: 55, Den: 5})
		first := callAll(g, x, y)
		callAll(game{}, nil, nil)
		callAll(g, y, x)
		callAll(pennies(), y, y)
		if again := callAll(g, x, y); !reflect.DeepEqual(first, again) {
			t.Errorf("results = %v, then %v", first, again)
		}
		if !same() || !sameX() || !sameY() {
			t.Errorf("an argument has been changed")
		}
	}
}

// TestGameResultsAreNew writes into results, and looks at their neighbours, at the arguments and at the
// next results.
func TestGameResultsAreNew(t *testing.T) {
	build := func() game { return gameFrom("1,1;1,1;1,1", "2,2;2,2;2,2") }
	g, x, y := build(), mixOf(1, 1, 1), mixOf(1, 1)
	first := callAll(g, x, y)
	lists := rows{}
	for range 2 {
		p, _ := impl.GameProblem(g)
		pure, _ := impl.PureEquilibria(g)
		rowList, columnList, _ := impl.RemainingChoices(g)
		exchanged, _ := impl.ExchangePlayers(g)
		replies, _ := impl.BestReplies(g, 0, y)
		others, _ := impl.BestReplies(g, 1, x)
		lists = slices.Concat(lists, p.M, rows{p.Q}, pure, rows{rowList, columnList}, exchanged.A, exchanged.B, rows{replies, others})
	}
	spoilRows(t, "problems, choices and games", lists)
	fracs := [][]frac{}
	for range 2 {
		list, _ := impl.EquilibriaBySets(g)
		fracs = append(fracs, list...)
		for a := range int64(5) {
			e, _, _ := impl.LemkeHowson(g, a)
			fracs = append(fracs, e)
		}
	}
	spoilFracs(t, "equilibria", fracs)
	if !sameGames(g, build()) || !slices.Equal(x, mixOf(1, 1, 1)) || !slices.Equal(y, mixOf(1, 1)) {
		t.Errorf("the arguments are now %v, %v, %v", g, x, y)
	}
	if again := callAll(g, x, y); !reflect.DeepEqual(first, again) {
		t.Errorf("results = %v, then %v", first, again)
	}
}

// TestGamesAtOnce calls everything from several goroutines at once; afterwards none is left.
func TestGamesAtOnce(t *testing.T) {
	games, before := someGames(100), runtime.NumGoroutine()
	want := [][]reply{}
	for _, g := range games {
		want = append(want, callGame(g))
	}
	var group sync.WaitGroup
	for range 8 {
		group.Go(func() {
			for i, g := range games {
				if got := callGame(g); !reflect.DeepEqual(got, want[i]) {
					t.Errorf("of %v at once: %v, want %v", g, got, want[i])
				}
			}
		})
	}
	group.Wait()
	// A goroutine that has closed its channel may take a moment to end.
	for range 1000 {
		if runtime.NumGoroutine() <= before {
			return
		}
		time.Sleep(time.Millisecond)
	}
	t.Errorf("%d goroutines, %d before", runtime.NumGoroutine(), before)
}
