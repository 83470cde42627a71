package tests

import (
	"math/bits"
	"math/rand"
	"reflect"
	"slices"
	"strconv"
	"testing"

	"loop.example/g01343/impl"
)

type cube = impl.Cube

// cubeFrom returns the cube with a list of outmaps, with commas between them.
func cubeFrom(text string) cube {
	out := rowsOf(text)[0]
	return cube{Dim: int64(bits.Len(uint(len(out)))) - 1, Out: out}
}

// uniformCube has all edges lead to the vertex 0.
func uniformCube(n int64) cube {
	c := cube{Dim: n}
	for v := range int64(1) << n {
		c.Out = append(c.Out, v)
	}
	return c
}

// ringCube is the orientation with unique sinks in which all but two vertices are a ring.
func ringCube() cube {
	return cubeFrom("0,3,6,1,5,4,2,7")
}

// rankedCube has each edge lead to the end with the lesser rank.
func rankedCube(n int64, ranks []int64) cube {
	c := cube{Dim: n}
	for v := range int64(1) << n {
		out := int64(0)
		for i := range n {
			if ranks[v^1<<i] < ranks[v] {
				out += 1 << i
			}
		}
		c.Out = append(c.Out, out)
	}
	return c
}

// grayCube has a walk through all vertices, each step in one direction, as its ranks.
func grayCube(n int64) cube {
	ranks := make([]int64, 1<<n)
	for r := range ranks {
		ranks[r^r>>1] = int64(r)
	}
	return rankedCube(n, ranks)
}

// joinedCube has two cubes below and above; the edge between their vertices v leads up if bit v is 1.
func joinedCube(low, high cube, up int64) cube {
	c := cube{Dim: low.Dim + 1, Out: append(slices.Clone(low.Out), high.Out...)}
	for v := range int64(len(low.Out)) {
		from := v
		if up>>v&1 == 0 {
			from += int64(len(low.Out))
		}
		c.Out[from] += 1 << low.Dim
	}
	return c
}

// allCubes returns all orientations of a dimension.
func allCubes(n int) []cube {
	if n == 1 {
		return []cube{cubeFrom("0,1"), cubeFrom("1,0")}
	}
	list := []cube{}
	for _, low := range allCubes(n - 1) {
		for _, high := range allCubes(n - 1) {
			for up := range int64(1) << len(low.Out) {
				list = append(list, joinedCube(low, high, up))
			}
		}
	}
	return list
}

func smallCubes() []cube {
	return slices.Concat(allCubes(1), allCubes(2), allCubes(3))
}

// shuffledCube numbers the directions by a list.
func shuffledCube(c cube, list []int) cube {
	shuffled := func(s int64) int64 {
		result := int64(0)
		for i, to := range list {
			result += s >> i & 1 << to
		}
		return result
	}
	result := cube{Dim: c.Dim, Out: make([]int64, len(c.Out))}
	for v, out := range c.Out {
		result.Out[shuffled(int64(v))] = shuffled(out)
	}
	return result
}

// sinkCube returns an orientation with unique sinks: of two different ones of which all edges lead to
// the other one, or of the same one twice with any edges between.
func sinkCube(source *rand.Rand, n int) cube {
	if n == 1 {
		return allCubes(1)[source.Intn(2)]
	}
	if n == 3 && source.Intn(3) == 0 {
		return shuffledCube(ringCube(), source.Perm(3))
	}
	low, high := sinkCube(source, n-1), sinkCube(source, n-1)
	up := int64(source.Intn(2)) * (1<<len(low.Out) - 1)
	if source.Intn(2) == 0 {
		high, up = low, source.Int63n(1<<len(low.Out))
	}
	return shuffledCube(joinedCube(low, high, up), source.Perm(n))
}

// greatCubes returns the same orientations of the dimensions 4 and 5 at each call: any ones, acyclic
// ones, ones with unique sinks, and these with one edge turned.
func greatCubes(count int) []cube {
	source := rand.New(rand.NewSource(6))
	list := []cube{}
	for i := range count {
		n := 4 + i%2
		ranks := []int64{}
		for _, rank := range source.Perm(1 << n) {
			ranks = append(ranks, int64(rank))
		}
		free := uniformCube(int64(n))
		for v := range free.Out {
			for k := range n {
				if v>>k&1 == 1 && source.Intn(2) == 0 {
					turnEdge(free, int64(v), k)
				}
			}
		}
		unique := sinkCube(source, n)
		turned := cube{Dim: int64(n), Out: slices.Clone(unique.Out)}
		turnEdge(turned, source.Int63n(1<<n), source.Intn(n))
		list = append(list, free, rankedCube(int64(n), ranks), unique, turned, sinkCube(source, n))
	}
	return append(list, uniformCube(4), uniformCube(5), grayCube(4), grayCube(5))
}

func turnEdge(c cube, v int64, i int) {
	c.Out[v] ^= 1 << i
	c.Out[v^1<<i] ^= 1 << i
}

// exactUnique holds each two vertices against each other: in the face that they span, their outmaps
// differ. This is another condition for unique sinks, by Szabo and Welzl.
func exactUnique(c cube) bool {
	for u := range c.Out {
		for v := range u {
			if (c.Out[u]^c.Out[v])&int64(u^v) == 0 {
				return false
			}
		}
	}
	return true
}

// exactLongest walks along all edges, and returns -1 if it comes back to a vertex.
func exactLongest(c cube) int64 {
	lengths, open := map[int64]int64{}, map[int64]bool{}
	var from func(v int64) int64
	from = func(v int64) int64 {
		if open[v] {
			return -1
		}
		if length, ok := lengths[v]; ok {
			return length
		}
		open[v] = true
		longest := int64(0)
		for i := range c.Dim {
			if c.Out[v]>>i&1 == 0 {
				continue
			}
			length := from(v ^ 1<<i)
			if length < 0 {
				return -1
			}
			longest = max(longest, 1+length)
		}
		open[v] = false
		lengths[v] = longest
		return longest
	}
	greatest := int64(0)
	for v := range c.Out {
		length := from(int64(v))
		if length < 0 {
			return -1
		}
		greatest = max(greatest, length)
	}
	return greatest
}

// exactFace goes from the new numbers to the old ones.
func exactFace(c cube, v, directions int64) cube {
	list := []int64{}
	for i := range c.Dim {
		if directions>>i&1 == 1 {
			list = append(list, i)
		}
	}
	face := cube{Dim: int64(len(list))}
	for number := range int64(1) << len(list) {
		u := v - v&directions
		for k, i := range list {
			u += number >> k & 1 << i
		}
		out := int64(0)
		for k, i := range list {
			out += c.Out[u] >> i & 1 << k
		}
		face.Out = append(face.Out, out)
	}
	return face
}

func exactWalk(c cube, v, rule int64) []int64 {
	walk, met := []int64{v}, map[int64]bool{v: true}
	for {
		steps := []int64{}
		for i := range c.Dim {
			if c.Out[v]>>i&1 == 1 {
				steps = append(steps, 1<<i)
			}
		}
		if len(steps) == 0 {
			return walk
		}
		switch rule {
		case 0:
			v ^= steps[0]
		case 1:
			v ^= steps[len(steps)-1]
		case 2:
			for _, step := range steps {
				v ^= step
			}
		}
		walk = append(walk, v)
		if met[v] {
			return walk
		}
		met[v] = true
	}
}

func sameCubes(a, b cube) bool {
	return a.Dim == b.Dim && slices.Equal(a.Out, b.Out)
}

func isZeroCube(c cube) bool {
	return c.Dim == 0 && len(c.Out) == 0
}

// callCube calls all functions of chapter 6 that take a cube alone.
func callCube(c cube) []reply {
	sinks, d := impl.SinksOf(c)
	unique, e := impl.HasUniqueSinks(c)
	acyclic, f := impl.IsAcyclicCube(c)
	longest, g := impl.LongestPath(c)
	return []reply{
		{"SinksOf", []any{sinks}, len(sinks) == 0, d},
		{"HasUniqueSinks", []any{unique}, !unique, e},
		{"IsAcyclicCube", []any{acyclic}, !acyclic, f},
		{"LongestPath", []any{longest}, longest == 0, g},
	}
}

// callCubeAt calls those that take numbers besides.
func callCubeAt(c cube, v, directions, rule int64) []reply {
	face, d := impl.FaceOf(c, v, directions)
	mirrored, e := impl.MirrorCube(c, directions)
	turned, f := impl.TurnCube(c, v)
	walk, g := impl.WalkByRule(c, v, rule)
	return []reply{
		{"FaceOf", []any{face}, isZeroCube(face), d},
		{"MirrorCube", []any{mirrored}, isZeroCube(mirrored), e},
		{"TurnCube", []any{turned}, isZeroCube(turned), f},
		{"WalkByRule", []any{walk}, len(walk) == 0, g},
	}
}

// invalidCubes has structs that break one condition each.
func invalidCubes() map[string]cube {
	return map[string]cube{
		"zero":               {},
		"empty":              {Out: []int64{}},
		"dimension 0":        {Dim: 0, Out: []int64{0}},
		"dimension 0 of two": {Dim: 0, Out: []int64{0, 1}},
		"dimension 6":        uniformCube(6),
		"dimension 7":        uniformCube(7),
		"dimension 6 of 32":  {Dim: 6, Out: uniformCube(5).Out},
		"dimension -1":       {Dim: -1, Out: []int64{0, 1}},
		"dimension least":    {Dim: leastInt, Out: []int64{0, 1}},
		"dimension greatest": {Dim: greatestInt, Out: []int64{0, 1}},
		"dimension 63":       {Dim: 63, Out: []int64{0, 1}},
		"dimension 64":       {Dim: 64, Out: []int64{0, 1}},
		"no list of 64":      {Dim: 64},
		"dimension wraps":    {Dim: 1<<32 + 1, Out: []int64{0, 1}},
		"no list":            {Dim: 1},
		"no list of 5":       {Dim: 5},
		"empty list":         {Dim: 1, Out: []int64{}},
		"one":                {Dim: 1, Out: []int64{0}},
		"three":              {Dim: 1, Out: []int64{0, 1, 0}},
		"four":               {Dim: 1, Out: []int64{0, 1, 0, 1}},
		"too short":          {Dim: 2, Out: []int64{0, 1, 2}},
		"too short by half":  {Dim: 2, Out: []int64{0, 1}},
		"too long":           {Dim: 2, Out: []int64{0, 1, 2, 3, 0}},
		"too long twice":     {Dim: 2, Out: uniformCube(3).Out},
		"31 of 32":           {Dim: 5, Out: uniformCube(5).Out[:31]},
		"33 of 32":           {Dim: 5, Out: append(uniformCube(5).Out, 0)},
		"no edge leads":      {Dim: 1, Out: []int64{0, 0}},
		"an edge leads both": {Dim: 1, Out: []int64{1, 1}},
		"edges of direction": {Dim: 2, Out: []int64{0, 0, 2, 2}},
		"first edge":         {Dim: 2, Out: []int64{1, 1, 2, 3}},
		"last edge":          {Dim: 2, Out: []int64{0, 1, 2, 1}},
		// The bits of the directions are right in these.
		"first below":         {Dim: 2, Out: []int64{-4, 1, 2, 3}},
		"last below":          {Dim: 2, Out: []int64{0, 1, 2, -1}},
		"all below":           {Dim: 1, Out: []int64{-2, -1}},
		"least":               {Dim: 2, Out: []int64{leastInt, 1, 2, 3}},
		"first above":         {Dim: 2, Out: []int64{4, 1, 2, 3}},
		"last above":          {Dim: 2, Out: []int64{0, 1, 2, 7}},
		"greatest":            {Dim: 2, Out: []int64{0, 1, 2, greatestInt}},
		"far above":           {Dim: 1, Out: []int64{1 << 32, 1}},
		"one of all is above": {Dim: 1, Out: []int64{2, 1}},
	}
}

func TestMaxDim(t *testing.T) {
	if impl.MaxDim != 5 {
		t.Errorf("MaxDim = %d", impl.MaxDim)
	}
}

func TestIsCube(t *testing.T) {
	for _, c := range append(append(smallCubes(), greatCubes(20)...), uniformCube(1), uniformCube(2), uniformCube(3)) {
		if !impl.IsCube(c) {
			t.Errorf("IsCube(%v) = false", c)
		}
	}
	for name, c := range invalidCubes() {
		if impl.IsCube(c) {
			t.Errorf("%s: IsCube(%v) = true", name, c)
		}
	}
}

// TestEdgesThatAreEqual spoils each edge at each end, and each outmap beyond the directions.
func TestEdgesThatAreEqual(t *testing.T) {
	for n := int64(1); n <= impl.MaxDim; n++ {
		for _, c := range []cube{uniformCube(n), grayCube(n)} {
			for v := range c.Out {
				for i := range 64 {
					c.Out[v] ^= 1 << i
					if impl.IsCube(c) {
						t.Errorf("IsCube(%v) = true", c)
					}
					c.Out[v] ^= 1 << i
				}
			}
			if !impl.IsCube(c) {
				t.Errorf("IsCube(%v) = false", c)
			}
		}
	}
}

// TestInvalidCubes gives other arguments that are wrong too: ErrInvalid comes first.
func TestInvalidCubes(t *testing.T) {
	for name, c := range invalidCubes() {
		checkRefused(t, name, callCube(c), impl.ErrInvalid)
		for _, x := range []int64{0, 1, 3, 31, 32, -1, 64, leastInt, greatestInt} {
			for _, y := range []int64{0, 1, 32, -1, leastInt, greatestInt} {
				for _, rule := range []int64{0, 1, 2, 3, -1, leastInt, greatestInt} {
					checkRefused(t, name, callCubeAt(c, x, y, rule), impl.ErrInvalid)
				}
			}
		}
	}
}

func TestCubeNumbersOutOfRange(t *testing.T) {
	for n := int64(1); n <= impl.MaxDim; n++ {
		for _, c := range []cube{uniformCube(n), grayCube(n)} {
			all := int64(1)<<n - 1
			for _, x := range []int64{-1, -2, all + 1, all + 2, 63, 64, 1 << 32, 1 << 62, leastInt, leastInt + 1, greatestInt} {
				checkRefused(t, "all out of range", callCubeAt(c, x, x, x), impl.ErrRange)
				for _, y := range []int64{0, 1, all} {
					replies := callCubeAt(c, x, y, 0)
					checkRefused(t, "a vertex out of range", append(replies[:1], replies[2:]...), impl.ErrRange)
					checkRefused(t, "a set out of range", callCubeAt(c, y, x, 0)[:2], impl.ErrRange)
				}
			}
			for _, v := range []int64{0, all, -1, all + 1} {
				checkRefused(t, "no direction", callCubeAt(c, v, 0, 0)[:1], impl.ErrRange)
				for _, rule := range []int64{-1, -2, 3, 4, 64, 1 << 32, 1<<32 + 1, leastInt, greatestInt} {
					checkRefused(t, "no rule", callCubeAt(c, v, 0, rule)[3:], impl.ErrRange)
				}
			}
		}
	}
}

// checkCube looks at what is told of a whole cube; longest is -1 for one that is not acyclic.
func checkCube(t *testing.T, c cube, sinks []int64, unique bool, longest int64) {
	t.Helper()
	if got, code := impl.SinksOf(c); !slices.Equal(got, sinks) || code != impl.ErrNone {
		t.Errorf("SinksOf(%v) = %v, %d, want %v", c, got, code, sinks)
	}
	if got, code := impl.HasUniqueSinks(c); got != unique || code != impl.ErrNone {
		t.Errorf("HasUniqueSinks(%v) = %v, %d", c, got, code)
	}
	if got, code := impl.IsAcyclicCube(c); got != (longest >= 0) || code != impl.ErrNone {
		t.Errorf("IsAcyclicCube(%v) = %v, %d", c, got, code)
	}
	want := int64(impl.ErrNone)
	if longest < 0 {
		longest, want = 0, impl.ErrState
	}
	if got, code := impl.LongestPath(c); got != longest || code != want {
		t.Errorf("LongestPath(%v) = %d, %d, want %d, %d", c, got, code, longest, want)
	}
}

func TestCubeCases(t *testing.T) {
	for _, c := range []struct {
		text    string
		sinks   []int64
		unique  bool
		longest int64
	}{
		// One direction.
		{"0,1", []int64{0}, true, 1},
		{"1,0", []int64{1}, true, 1},
		// Two directions: all edges to one vertex, a way through all, a ring, two sinks.
		{"0,1,2,3", []int64{0}, true, 2},
		{"3,2,1,0", []int64{3}, true, 2},
		{"0,3,2,1", []int64{0}, true, 3},
		{"1,2,2,1", nil, false, -1},
		{"2,1,1,2", nil, false, -1},
		{"0,3,3,0", []int64{0, 3}, false, 1},
		{"3,0,0,3", []int64{1, 2}, false, 1},
		// Three directions: unique sinks, with a way through all vertices, and with a ring.
		{"0,1,2,3,4,5,6,7", []int64{0}, true, 3},
		{"7,6,5,4,3,2,1,0", []int64{7}, true, 3},
		{"0,1,3,2,7,6,4,5", []int64{0}, true, 7},
		{"0,3,6,1,5,4,2,7", []int64{0}, true, -1},
		// One sink of the whole cube, but a face with a ring, or with two sinks.
		{"0,1,2,3,5,6,6,5", []int64{0}, false, -1},
		{"0,7,2,1,7,2,4,5", []int64{0}, false, 5},
		// No sink at all, and as many as there can be.
		{"1,2,2,1,5,6,6,5", nil, false, -1},
		{"0,7,7,0,7,0,0,7", []int64{0, 3, 5, 6}, false, 1},
		{"7,0,0,7,0,7,7,0", []int64{1, 2, 4, 7}, false, 1},
	} {
		checkCube(t, cubeFrom(c.text), c.sinks, c.unique, c.longest)
	}
}

// checkExactCube looks at the same by other ways, and returns whether the sinks are unique and whether
// it is acyclic.
func checkExactCube(t *testing.T, c cube) (bool, bool) {
	t.Helper()
	sinks := []int64{}
	for v, out := range c.Out {
		if out == 0 {
			sinks = append(sinks, int64(v))
		}
	}
	unique, longest := exactUnique(c), exactLongest(c)
	checkCube(t, c, sinks, unique, longest)
	if longest > 1<<c.Dim-1 || unique && len(sinks) != 1 || longest >= 0 && len(sinks) == 0 {
		t.Errorf("%v: sinks %v, unique %v, longest path %d", c, sinks, unique, longest)
	}
	return unique, longest >= 0
}

// TestAllSmallCubes has all orientations of up to three directions.
func TestAllSmallCubes(t *testing.T) {
	for n, want := range [][3]int{1: {2, 2, 2}, 2: {16, 12, 14}, 3: {4096, 744, 1862}} {
		if n == 0 {
			continue
		}
		counts, both := [3]int{}, 0
		for _, c := range allCubes(n) {
			unique, acyclic := checkExactCube(t, c)
			counts[0]++
			if unique {
				counts[1]++
			}
			if acyclic {
				counts[2]++
			}
			if unique && acyclic {
				both++
			}
		}
		if counts != want || both != []int{0, 2, 12, 728}[n] {
			t.Errorf("of %d directions: %v, and %d both unique and acyclic", n, counts, both)
		}
	}
}

func TestGreatCubes(t *testing.T) {
	counts := map[[2]bool]int{}
	for _, c := range greatCubes(150) {
		unique, acyclic := checkExactCube(t, c)
		counts[[2]bool{unique, acyclic}]++
	}
	if len(counts) < 4 || min(counts[[2]bool{true, true}], counts[[2]bool{true, false}], counts[[2]bool{false, true}], counts[[2]bool{false, false}]) < 20 {
		t.Errorf("only %v by unique sinks and acyclic", counts)
	}
}

// TestLongestPathsOfAllVertices reaches the limit of 2^n - 1, and the least length there is for edges
// that lead to one vertex.
func TestLongestPathsOfAllVertices(t *testing.T) {
	for n := int64(1); n <= impl.MaxDim; n++ {
		checkCube(t, grayCube(n), []int64{0}, true, 1<<n-1)
		checkCube(t, uniformCube(n), []int64{0}, true, n)
	}
}

func TestFaceOf(t *testing.T) {
	for _, c := range []struct {
		text          string
		v, directions int64
		want          string
	}{
		{"0,1", 0, 1, "0,1"},
		{"1,0", 1, 1, "1,0"},
		{"0,1,2,3", 3, 2, "0,1"},
		{"0,3,2,1", 0, 1, "0,1"},
		{"0,3,2,1", 1, 1, "0,1"},
		{"0,3,2,1", 2, 1, "0,1"},
		{"0,3,2,1", 0, 2, "0,1"},
		{"0,3,2,1", 3, 2, "1,0"},
		{"0,3,2,1", 2, 3, "0,3,2,1"},
		// One direction of three, at the least vertex and at the other one.
		{"0,3,6,1,5,4,2,7", 0, 4, "0,1"},
		{"0,3,6,1,5,4,2,7", 4, 4, "0,1"},
		{"0,3,6,1,5,4,2,7", 2, 4, "1,0"},
		{"0,3,6,1,5,4,2,7", 6, 4, "1,0"},
		// Two that follow each other, or do not.
		{"0,3,6,1,5,4,2,7", 7, 3, "1,0,2,3"},
		{"0,3,6,1,5,4,2,7", 1, 6, "1,0,2,3"},
		{"0,3,6,1,5,4,2,7", 3, 5, "2,1,0,3"},
		{"0,3,6,1,5,4,2,7", 2, 5, "2,1,0,3"},
		{"0,3,6,1,5,4,2,7", 0, 5, "0,1,3,2"},
		{"0,3,6,1,5,4,2,7", 5, 5, "0,1,3,2"},
		// All.
		{"0,3,6,1,5,4,2,7", 0, 7, "0,3,6,1,5,4,2,7"},
		{"0,3,6,1,5,4,2,7", 6, 7, "0,3,6,1,5,4,2,7"},
		// The face with a ring, and the one with two sinks.
		{"0,1,2,3,5,6,6,5", 4, 3, "1,2,2,1"},
		{"0,7,2,1,7,2,4,5", 5, 5, "0,3,3,0"},
	} {
		got, code := impl.FaceOf(cubeFrom(c.text), c.v, c.directions)
		if !sameCubes(got, cubeFrom(c.want)) || code != impl.ErrNone {
			t.Errorf("FaceOf(%s, %d, %d) = %v, %d, want %s", c.text, c.v, c.directions, got, code, c.want)
		}
	}
}

// TestFacesAgainstExactOnes has all faces, each from all of its vertices.
func TestFacesAgainstExactOnes(t *testing.T) {
	for _, c := range slices.Concat(allCubes(1), allCubes(2), allCubes(3)[:2000], greatCubes(6)) {
		for v := range int64(len(c.Out)) {
			for directions := int64(1); directions < 1<<c.Dim; directions++ {
				got, code := impl.FaceOf(c, v, directions)
				if want := exactFace(c, v, directions); !sameCubes(got, want) || code != impl.ErrNone || !impl.IsCube(got) {
					t.Errorf("FaceOf(%v, %d, %d) = %v, %d, want %v", c, v, directions, got, code, want)
				}
			}
		}
	}
}

func TestMirrorAndTurnCube(t *testing.T) {
	for _, c := range []struct {
		text             string
		s                int64
		mirrored, turned string
	}{
		// The empty set.
		{"0,1", 0, "0,1", "0,1"},
		{"0,1,2,3", 0, "0,1,2,3", "0,1,2,3"},
		{"1,2,2,1", 0, "1,2,2,1", "1,2,2,1"},
		// Some directions.
		{"0,1,2,3", 1, "1,0,3,2", "1,0,3,2"},
		{"0,1,2,3", 2, "2,3,0,1", "2,3,0,1"},
		{"0,3,2,1", 1, "1,2,3,0", "3,0,1,2"},
		{"0,3,2,1", 2, "2,1,0,3", "2,1,0,3"},
		{"0,3,6,1,5,4,2,7", 5, "5,6,3,4,0,1,7,2", "4,5,7,2,3,0,1,6"},
		// All of them.
		{"0,1", 1, "1,0", "1,0"},
		{"0,1,2,3", 3, "3,2,1,0", "3,2,1,0"},
		{"0,3,2,1", 3, "3,0,1,2", "1,2,3,0"},
		{"1,2,2,1", 3, "2,1,1,2", "1,2,2,1"},
		{"0,3,6,1,5,4,2,7", 7, "7,4,1,6,2,3,5,0", "7,2,4,5,1,6,3,0"},
	} {
		mirrored, a := impl.MirrorCube(cubeFrom(c.text), c.s)
		if !sameCubes(mirrored, cubeFrom(c.mirrored)) || a != impl.ErrNone {
			t.Errorf("MirrorCube(%s, %d) = %v, %d, want %s", c.text, c.s, mirrored, a, c.mirrored)
		}
		turned, b := impl.TurnCube(cubeFrom(c.text), c.s)
		if !sameCubes(turned, cubeFrom(c.turned)) || b != impl.ErrNone {
			t.Errorf("TurnCube(%s, %d) = %v, %d, want %s", c.text, c.s, turned, b, c.turned)
		}
	}
}

// TestMirroredAndTurnedCubes looks at each edge; what is mirrored or turned twice is as it was.
func TestMirroredAndTurnedCubes(t *testing.T) {
	for _, c := range append(smallCubes(), greatCubes(6)...) {
		for s := range int64(len(c.Out)) {
			mirrored, a := impl.MirrorCube(c, s)
			turned, b := impl.TurnCube(c, s)
			if !impl.IsCube(mirrored) || !impl.IsCube(turned) || mirrored.Dim != c.Dim || turned.Dim != c.Dim || a != impl.ErrNone || b != impl.ErrNone {
				t.Fatalf("MirrorCube, TurnCube(%v, %d) = %v, %v, %d, %d", c, s, mirrored, turned, a, b)
			}
			for v := range int64(len(c.Out)) {
				for i := range c.Dim {
					same := mirrored.Out[v]>>i&1 == c.Out[v]>>i&1
					if same != (s>>i&1 == 0) {
						t.Errorf("MirrorCube(%v, %d) = %v: the edge of %d in the direction %d", c, s, mirrored, v, i)
					}
				}
				if turned.Out[v] != c.Out[v^s] {
					t.Errorf("TurnCube(%v, %d) = %v at %d", c, s, turned, v)
				}
			}
			mirrored, a = impl.MirrorCube(mirrored, s)
			turned, b = impl.TurnCube(turned, s)
			if !sameCubes(mirrored, c) || !sameCubes(turned, c) || a != impl.ErrNone || b != impl.ErrNone {
				t.Errorf("%v, mirrored and turned by %d twice, is %v and %v, %d, %d", c, s, mirrored, turned, a, b)
			}
		}
	}
}

// TestUniqueSinksStay is promise 6 for faces, and for mirrored and turned orientations.
func TestUniqueSinksStay(t *testing.T) {
	looked := [6]int{}
	for _, c := range append(smallCubes(), greatCubes(25)...) {
		if unique, code := impl.HasUniqueSinks(c); !unique || code != impl.ErrNone {
			continue
		}
		looked[c.Dim]++
		checkOneSink(t, c)
		for s := range int64(len(c.Out)) {
			mirrored, _ := impl.MirrorCube(c, s)
			turned, _ := impl.TurnCube(c, s)
			checkOneSink(t, mirrored)
			checkOneSink(t, turned)
			for v := range int64(len(c.Out)) {
				if s == 0 || v&s != 0 {
					continue
				}
				face, _ := impl.FaceOf(c, v, s)
				checkOneSink(t, face)
			}
		}
	}
	if looked != [6]int{1: 2, 2: 12, 3: 744, 4: looked[4], 5: looked[5]} || min(looked[4], looked[5]) < 20 {
		t.Errorf("only %v orientations with unique sinks", looked)
	}
}

func checkOneSink(t *testing.T, c cube) {
	t.Helper()
	sinks, a := impl.SinksOf(c)
	unique, b := impl.HasUniqueSinks(c)
	if len(sinks) != 1 || !unique || a != impl.ErrNone || b != impl.ErrNone {
		t.Errorf("%v has the sinks %v, unique: %v, %d, %d", c, sinks, unique, a, b)
	}
}

// TestUniqueSinksAreOfFaces: an orientation has unique sinks just if no face has none, or more than one.
func TestUniqueSinksAreOfFaces(t *testing.T) {
	onlyWhole := 0
	for _, c := range append(smallCubes(), greatCubes(12)...) {
		want := true
		for v := range int64(len(c.Out)) {
			for s := int64(1); s < int64(len(c.Out)) && want; s++ {
				face, _ := impl.FaceOf(c, v, s)
				sinks, code := impl.SinksOf(face)
				want = len(sinks) == 1 && code == impl.ErrNone
			}
		}
		if got, code := impl.HasUniqueSinks(c); got != want || code != impl.ErrNone {
			t.Errorf("HasUniqueSinks(%v) = %v, %d", c, got, code)
		}
		if sinks, _ := impl.SinksOf(c); len(sinks) == 1 && !want {
			onlyWhole++
		}
	}
	if onlyWhole < 100 {
		t.Errorf("only %d orientations with one sink, but not in a face", onlyWhole)
	}
}

func TestWalkByRule(t *testing.T) {
	for _, c := range []struct {
		text    string
		v, rule int64
		want    []int64
	}{
		// At a sink: no step.
		{"0,1", 0, 0, []int64{0}},
		{"1,0", 1, 1, []int64{1}},
		{"0,3,3,0", 3, 2, []int64{3}},
		{"0,1,2,3,4,5,6,7", 0, 2, []int64{0}},
		// To a sink.
		{"0,1", 1, 0, []int64{1, 0}},
		{"1,0", 0, 1, []int64{0, 1}},
		{"0,1", 1, 2, []int64{1, 0}},
		{"0,1,2,3,4,5,6,7", 7, 0, []int64{7, 6, 4, 0}},
		{"0,1,2,3,4,5,6,7", 7, 1, []int64{7, 3, 1, 0}},
		{"0,1,2,3,4,5,6,7", 7, 2, []int64{7, 0}},
		{"0,1,2,3,4,5,6,7", 5, 0, []int64{5, 4, 0}},
		{"0,1,2,3,4,5,6,7", 5, 1, []int64{5, 1, 0}},
		{"0,3,3,0", 1, 0, []int64{1, 0}},
		{"0,3,3,0", 1, 1, []int64{1, 3}},
		{"0,3,3,0", 1, 2, []int64{1, 2, 1}},
		{"0,3,6,1,5,4,2,7", 7, 0, []int64{7, 6, 4, 5, 1, 0}},
		{"0,3,6,1,5,4,2,7", 7, 1, []int64{7, 3, 2, 6, 4, 0}},
		{"0,3,6,1,5,4,2,7", 7, 2, []int64{7, 0}},
		// To a vertex that is met again: the first one, or another one.
		{"1,2,2,1", 0, 0, []int64{0, 1, 3, 2, 0}},
		{"1,2,2,1", 3, 1, []int64{3, 2, 0, 1, 3}},
		{"1,2,2,1", 2, 2, []int64{2, 0, 1, 3, 2}},
		{"0,3,6,1,5,4,2,7", 1, 2, []int64{1, 2, 4, 1}},
		{"0,3,6,1,5,4,2,7", 3, 2, []int64{3, 2, 4, 1, 2}},
		{"0,1,2,3,5,6,6,5", 4, 0, []int64{4, 5, 7, 6, 4}},
		{"0,1,2,3,5,6,6,5", 5, 1, []int64{5, 1, 0}},
	} {
		got, code := impl.WalkByRule(cubeFrom(c.text), c.v, c.rule)
		if !slices.Equal(got, c.want) || code != impl.ErrNone {
			t.Errorf("WalkByRule(%s, %d, %d) = %v, %d, want %v", c.text, c.v, c.rule, got, code, c.want)
		}
	}
}

// TestLongWalks goes through all vertices by the rule 0: no walk to a sink has more steps.
func TestLongWalks(t *testing.T) {
	for n := int64(1); n <= impl.MaxDim; n++ {
		longest, c := 0, grayCube(n)
		for v := range int64(1) << n {
			walk, code := impl.WalkByRule(c, v, 0)
			if want := exactWalk(c, v, 0); !slices.Equal(walk, want) || code != impl.ErrNone {
				t.Errorf("WalkByRule(%v, %d, 0) = %v, %d, want %v", c, v, walk, code, want)
			}
			longest = max(longest, len(walk)-1)
		}
		if longest != 1<<n-1 {
			t.Errorf("the longest walk of %d directions has %d steps", n, longest)
		}
	}
}

// TestWalksEnd is promise 6 for walks: the last vertex is a sink, or has been met; all others are met
// once, and are none. Each step is along edges that lead away.
func TestWalksEnd(t *testing.T) {
	atOnce, sinks, starts, others := [3]int{}, [3]int{}, [3]int{}, [3]int{}
	for _, c := range append(smallCubes(), greatCubes(60)...) {
		for v := range int64(len(c.Out)) {
			for rule := range int64(3) {
				walk, code := impl.WalkByRule(c, v, rule)
				if want := exactWalk(c, v, rule); !slices.Equal(walk, want) || code != impl.ErrNone {
					t.Fatalf("WalkByRule(%v, %d, %d) = %v, %d, want %v", c, v, rule, walk, code, want)
				}
				checkWalk(t, c, v, walk)
				last := walk[len(walk)-1]
				switch {
				case len(walk) == 1:
					atOnce[rule]++
				case c.Out[last] == 0:
					sinks[rule]++
				case last == v:
					starts[rule]++
				default:
					others[rule]++
				}
			}
		}
	}
	for rule := range 3 {
		if min(atOnce[rule], sinks[rule], starts[rule], others[rule]) < 100 {
			t.Errorf("only %v walks at once, %v to sinks, %v to where they began, %v to others", atOnce, sinks, starts, others)
		}
	}
}

func checkWalk(t *testing.T, c cube, v int64, walk []int64) {
	t.Helper()
	last := len(walk) - 1
	if walk[0] != v || c.Out[walk[last]] != 0 && slices.Index(walk, walk[last]) == last {
		t.Errorf("the walk %v from %d of %v ends nowhere", walk, v, c)
	}
	for k, u := range walk[:last] {
		changed := u ^ walk[k+1]
		if c.Out[u] == 0 || slices.Index(walk, u) != k || changed == 0 || changed&^c.Out[u] != 0 {
			t.Errorf("the walk %v from %d of %v, at %d", walk, v, c, u)
		}
	}
}

func TestCountUniqueSinks(t *testing.T) {
	for _, c := range []struct{ n, want, code int64 }{
		{1, 2, impl.ErrNone},
		{2, 12, impl.ErrNone},
		{3, 744, impl.ErrNone},
		{0, 0, impl.ErrRange},
		{4, 0, impl.ErrRange},
		{5, 0, impl.ErrRange},
		{-1, 0, impl.ErrRange},
		{64, 0, impl.ErrRange},
		{1<<32 + 1, 0, impl.ErrRange},
		{leastInt, 0, impl.ErrRange},
		{greatestInt, 0, impl.ErrRange},
	} {
		// More than once, as goroutines may come in any order.
		for range 5 {
			if got, code := impl.CountUniqueSinks(c.n); got != c.want || code != c.code {
				t.Errorf("CountUniqueSinks(%d) = %d, %d", c.n, got, code)
			}
		}
	}
}

func TestCubeOfProblem(t *testing.T) {
	for _, c := range []struct {
		text, want string
	}{
		{"2,1;1,2/-5,-6", "3,2,1,0"},
		{"1/-1", "1,0"},
		{"1/1", "0,1"},
		{"20/-100", "1,0"},
		{"1,0;0,1/-1,-1", "3,2,1,0"},
		{"1,0;0,1/1,1", "0,1,2,3"},
		{"1,0;0,1/-1,1", "1,0,3,2"},
		{"1,0;0,1/1,-1", "2,3,0,1"},
		// The problems of Murty: a walk by the rule 0 has all vertices.
		{"1,2;0,1/-1,-1", "3,2,0,1"},
		{"1,2,2;0,1,2;0,0,1/-1,-1,-1", "7,6,4,5,0,1,3,2"},
		// A ring.
		{"1,2,0;0,1,2;2,0,1/-1,-1,-1", "7,2,4,5,1,6,3,0"},
		// A number of a point is 0: of the empty set, or not of it.
		{"1/0", ""},
		{"2,1;1,2/0,1", ""},
		{"2,1;1,2/-2,-1", ""},
		{"1,1;0,1/-1,-1", ""},
		// A set is not basic: the first one, the last one alone.
		{"0/1", ""},
		{"0,1;1,1/-1,-2", ""},
		{"1,1;1,1/-1,-2", ""},
		{"1,1,1;1,2,2;1,2,2/1,2,5", ""},
		// No orientation: an edge that is equal at both ends.
		{"-1/1", ""},
		{"-1/-1", ""},
		{"1,2;2,1/-1,-1", ""},
		{"1,2;2,1/1,1", ""},
		{"-1,0;0,-1/1,1", ""},
	} {
		want, wanted := cube{}, int64(impl.ErrState)
		if c.want != "" {
			want, wanted = cubeFrom(c.want), impl.ErrNone
		}
		if got, code := impl.CubeOfProblem(mustParse(t, c.text)); !sameCubes(got, want) || code != wanted {
			t.Errorf("CubeOfProblem(%s) = %v, %d, want %s", c.text, got, code, c.want)
		}
	}
}

// exactCube has the signs of exact points; it returns the zero value, and why, if there is none.
func exactCube(p problem) (cube, string) {
	c := cube{Dim: int64(len(p.M))}
	for _, s := range allSets(len(p.M)) {
		point := exactPoint(p, s)
		if point == nil {
			return cube{}, "not basic"
		}
		out := int64(0)
		for i, x := range point {
			switch x.Sign() {
			case 0:
				return cube{}, "degenerate"
			case -1:
				out += 1 << i
			}
		}
		c.Out = append(c.Out, out)
	}
	for v, out := range c.Out {
		for i := range c.Dim {
			if out>>i&1 == c.Out[v^1<<i]>>i&1 {
				return cube{}, "no orientation"
			}
		}
	}
	return c, ""
}

// TestCubesOfProblemsAgainstExactOnes has problems of all kinds. There is an orientation just for P
// matrices without a 0 in a point; it has unique sinks, and the one of the whole is the feasible set.
func TestCubesOfProblemsAgainstExactOnes(t *testing.T) {
	why := [6]map[string]int{}
	for n := range why {
		why[n] = map[string]int{}
	}
	for _, p := range slices.Concat(someProblems(500), smallProblems(200), pProblems(t)) {
		want, reason := exactCube(p)
		why[len(p.M)][reason]++
		wanted := int64(impl.ErrNone)
		if reason != "" {
			wanted = impl.ErrState
		}
		got, code := impl.CubeOfProblem(p)
		if !sameCubes(got, want) || code != wanted {
			t.Errorf("CubeOfProblem(%v) = %v, %d, want %v, %s", p, got, code, want, reason)
		}
		isP, _ := impl.IsOfKind(p.M, impl.KindP)
		degenerate, _ := impl.IsDegenerate(p)
		if (code == impl.ErrNone) != (isP && !degenerate) {
			t.Errorf("CubeOfProblem(%v) = %v, %d, but P %v, degenerate %v", p, got, code, isP, degenerate)
		}
		if code != impl.ErrNone {
			continue
		}
		checkOneSink(t, got)
		sinks, _ := impl.SinksOf(got)
		if sets, code := impl.FeasibleSets(p); !slices.Equal(sets, sinks) || code != impl.ErrNone {
			t.Errorf("FeasibleSets(%v) = %v, %d, but the sinks are %v", p, sets, code, sinks)
		}
	}
	for n := 1; n <= impl.MaxSize; n++ {
		if min(why[n][""], why[n]["not basic"], why[n]["degenerate"], why[n]["no orientation"]) < 5 {
			t.Errorf("only %v of the size %d", why[n], n)
		}
	}
}

func TestCubesOfInvalidProblems(t *testing.T) {
	invalid := invalidProblems()
	invalid["size 70"] = squareOf(70, 1)
	for name, p := range invalid {
		c, code := impl.CubeOfProblem(p)
		checkRefused(t, name, []reply{{"CubeOfProblem", []any{c}, isZeroCube(c), code}}, impl.ErrInvalid)
	}
}

// callCubes calls all functions of chapter 6.
func callCubes(c cube, p problem) []reply {
	list := callCube(c)
	for k := int64(-1); k <= 8; k++ {
		list = append(list, callCubeAt(c, k, 7-k, k%4)...)
		count, code := impl.CountUniqueSinks(k)
		list = append(list, reply{"CountUniqueSinks " + strconv.FormatInt(k, 10), []any{count}, count == 0, code})
	}
	of, code := impl.CubeOfProblem(p)
	return append(list, reply{"CubeOfProblem", []any{impl.IsCube(c), of}, isZeroCube(of), code})
}

// TestCubeCallsLeaveNothing: no argument is changed, and each call tells the same once more, also
// behind calls that end with errors.
func TestCubeCallsLeaveNothing(t *testing.T) {
	for _, c := range []cube{ringCube(), grayCube(3), uniformCube(2)} {
		p, same := guardedProblem(mustParse(t, "1,2,0;0,1,2;2,0,1/-1,-1,-1"))
		out, sameOut := guarded(c.Out, 66)
		c.Out = out
		first := callCubes(c, p)
		callCubes(cube{}, problem{})
		callCubes(cube{Dim: 2, Out: []int64{0, 1, 2, 2}}, mustParse(t, "0/0"))
		callCubes(grayCube(5), mustParse(t, "2,1;1,2/-5,-6"))
		if again := callCubes(c, p); !reflect.DeepEqual(first, again) {
			t.Errorf("results = %v, then %v", first, again)
		}
		if !same() || !sameOut() {
			t.Errorf("an argument has been changed")
		}
	}
}

// TestCubeResultsAreNew writes into results, and looks at the arguments and at the next results.
func TestCubeResultsAreNew(t *testing.T) {
	c, p := ringCube(), mustParse(t, "1,2,0;0,1,2;2,0,1/-1,-1,-1")
	for name, f := range map[string]func() []int64{
		"SinksOf":           func() []int64 { list, _ := impl.SinksOf(c); return list },
		"FaceOf":            func() []int64 { face, _ := impl.FaceOf(c, 3, 5); return face.Out },
		"FaceOf all":        func() []int64 { face, _ := impl.FaceOf(c, 3, 7); return face.Out },
		"MirrorCube":        func() []int64 { mirrored, _ := impl.MirrorCube(c, 5); return mirrored.Out },
		"MirrorCube none":   func() []int64 { mirrored, _ := impl.MirrorCube(c, 0); return mirrored.Out },
		"TurnCube":          func() []int64 { turned, _ := impl.TurnCube(c, 3); return turned.Out },
		"TurnCube none":     func() []int64 { turned, _ := impl.TurnCube(c, 0); return turned.Out },
		"WalkByRule":        func() []int64 { walk, _ := impl.WalkByRule(c, 3, 2); return walk },
		"WalkByRule at end": func() []int64 { walk, _ := impl.WalkByRule(c, 0, 2); return walk },
		"CubeOfProblem":     func() []int64 { of, _ := impl.CubeOfProblem(p); return of.Out },
	} {
		first := f()
		want := slices.Clone(first)
		if len(first) == 0 {
			t.Fatalf("%s has nothing", name)
		}
		spoilRows(t, name, rows{first, f()})
		if again := f(); !slices.Equal(again, want) || !sameCubes(c, ringCube()) || !sameProblems(p, mustParse(t, "1,2,0;0,1,2;2,0,1/-1,-1,-1")) {
			t.Errorf("%s = %v, then %v, of %v, %v", name, want, again, c, p)
		}
	}
}
