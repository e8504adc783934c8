package tests

import (
	"math"
	"math/rand/v2"
	"slices"
	"testing"

	"loop.example/planargeometry/impl"
)

// stepsBetween returns the length of an edge: the number of steps to the right, left, up or down.
func stepsBetween(a impl.Point, b impl.Point) int {
	return max(a.X, b.X) - min(a.X, b.X) + max(a.Y, b.Y) - min(a.Y, b.Y)
}

// totalSteps returns the sum of the lengths of edges.
func totalSteps(list []impl.Point, edges []impl.Pair) int {
	n := 0
	for _, e := range edges {
		n += stepsBetween(list[e.A], list[e.B])
	}
	return n
}

// partsBy returns for each of n indices the smallest one that edges connect it with.
func partsBy(n int, edges []impl.Pair) []int {
	parts := indicesWith(n, func(int) bool { return true })
	for range n {
		for _, e := range edges {
			parts[e.A] = min(parts[e.A], parts[e.B])
			parts[e.B] = parts[e.A]
		}
	}
	return parts
}

// areConnected reports whether edges connect all of n indices.
func areConnected(n int, edges []impl.Pair) bool {
	return n == 0 || slices.Max(partsBy(n, edges)) == 0
}

// wantTree returns the result that SpanningTree should have.
func wantTree(list []impl.Point) []impl.Pair {
	var tree []impl.Pair
	for !areConnected(len(list), tree) {
		parts := partsBy(len(list), tree)
		best, shortest := impl.Pair{}, math.MaxInt
		for a := range list {
			for b := a + 1; b < len(list); b++ {
				if n := stepsBetween(list[a], list[b]); parts[a] != parts[b] && n < shortest {
					best, shortest = impl.Pair{A: a, B: b}, n
				}
			}
		}
		tree = append(tree, best)
	}
	return tree
}

// treeLists returns lists of points, many of which have ties between edges.
func treeLists() [][]impl.Point {
	lists := append(kdLists(), grid(4, 5, xy(-2, -2)), grid(1, 20, xy(0, 0)), grid(20, 1, xy(0, 0)))
	return append(lists, []impl.Point{xy(0, 0), xy(2, 0), xy(1, 1), xy(1, -1)}, []impl.Point{xy(1000, 1000), xy(-1000, -1000), xy(1000, -1000), xy(-1000, 1000)})
}

func TestP95ManhattanIsADistance(t *testing.T) {
	some := append(somePoints(), grid(5, 5, xy(-2, -2))...)
	for _, a := range some {
		for _, b := range some {
			n := impl.Manhattan(a, b)
			if n != stepsBetween(a, b) || n != impl.Manhattan(b, a) || (n == 0) != (a == b) {
				t.Fatalf("Manhattan(%v, %v) = %d, exchanged %d", a, b, n, impl.Manhattan(b, a))
			}
			if square := impl.SquaredDistance(a, b); n*n < square || n*n > 2*square {
				t.Fatalf("Manhattan(%v, %v) = %d, but SquaredDistance = %d", a, b, n, square)
			}
		}
	}
}

func TestP95OrdinaryLengths(t *testing.T) {
	for _, c := range []struct {
		a, b impl.Point
		want int
	}{
		{xy(0, 0), xy(0, 0), 0}, {xy(0, 0), xy(-3, 4), 7}, {xy(1, 2), xy(4, 3), 4}, {xy(5, 0), xy(0, 0), 5}, {xy(0, 0), xy(0, -5), 5}, {xy(2, -2), xy(-2, 2), 8},
		{xy(-1000, -1000), xy(1000, 1000), 4000}, {xy(1000, -1000), xy(-1000, 1000), 4000}, {xy(1000, 7), xy(-1000, 7), 2000},
	} {
		if n := impl.Manhattan(c.a, c.b); n != c.want {
			t.Errorf("Manhattan(%v, %v) = %d, want %d", c.a, c.b, n, c.want)
		}
	}
}

func TestP95P96InvalidPoints(t *testing.T) {
	for _, bad := range badPoints() {
		for _, p := range append(somePoints(), bad) {
			if n, m := impl.Manhattan(bad, p), impl.Manhattan(p, bad); n != -1 || m != -1 {
				t.Errorf("Manhattan(%v, %v) = %d, exchanged %d", bad, p, n, m)
			}
		}
	}
}

func TestP96DetoursAreNotShorter(t *testing.T) {
	onTheWay := 0
	triples(append(somePoints(), grid(4, 4, xy(-1, -1))...), func(a, b, c impl.Point) {
		direct, detour := impl.Manhattan(a, c), impl.Manhattan(a, b)+impl.Manhattan(b, c)
		if direct > detour {
			t.Fatalf("Manhattan(%v, %v) = %d, but %d over %v", a, c, direct, detour, b)
		}
		// A detour is as short exactly if the point is in the rectangle around both.
		inside := inBox(box(min(a.X, c.X), min(a.Y, c.Y), max(a.X, c.X), max(a.Y, c.Y)), b)
		if (direct == detour) != inside {
			t.Fatalf("Manhattan(%v, %v) = %d, and %d over %v", a, c, direct, detour, b)
		}
		if inside {
			onTheWay++
		}
	})
	if onTheWay < 1000 {
		t.Errorf("only %d points are on the way", onTheWay)
	}
}

func TestP97TreesAreAccepted(t *testing.T) {
	for _, list := range treeLists() {
		var tree []impl.Pair
		keepsPoints(t, "SpanningTree", list, func(list []impl.Point) { tree = impl.SpanningTree(list) })
		if want := wantTree(list); !slices.Equal(tree, want) {
			t.Fatalf("SpanningTree(%v) = %v, want %v", list, tree, want)
		}
		if len(tree) != max(0, len(list)-1) || !impl.CheckSpanning(list, tree) {
			t.Fatalf("CheckSpanning(%v) rejects SpanningTree %v", list, tree)
		}
		last := 0
		for _, e := range tree {
			n := impl.Manhattan(list[e.A], list[e.B])
			if n < last || e.A >= e.B {
				t.Fatalf("SpanningTree(%v) = %v has the length %d after %d", list, tree, n, last)
			}
			last = n
		}
	}
}

func TestP97AllSmallLists(t *testing.T) {
	for n := range 6 {
		sequences(grid(3, 2, xy(0, 0)), n, func(list []impl.Point) {
			tree := impl.SpanningTree(list)
			if want := wantTree(list); !slices.Equal(tree, want) || !impl.CheckSpanning(list, tree) {
				t.Fatalf("SpanningTree(%v) = %v, want %v", list, tree, want)
			}
		})
	}
}

func TestP97OrdinaryTrees(t *testing.T) {
	for name, c := range map[string]struct {
		list []impl.Point
		want []impl.Pair
	}{
		"nothing":        {nil, nil},
		"one point":      {[]impl.Point{xy(3, 3)}, nil},
		"two points":     {[]impl.Point{xy(3, 3), xy(1, 1)}, indexPairs(0, 1)},
		"equal points":   {[]impl.Point{xy(3, 3), xy(3, 3), xy(3, 3), xy(3, 3)}, indexPairs(0, 1, 0, 2, 0, 3)},
		"two equal ones": {[]impl.Point{xy(0, 0), xy(5, 5), xy(1, 0), xy(5, 5)}, indexPairs(1, 3, 0, 2, 1, 2)},
		"four points":    {[]impl.Point{xy(0, 0), xy(5, 0), xy(1, 1), xy(5, 2)}, indexPairs(0, 2, 1, 3, 0, 1)},
		"a square":       {[]impl.Point{xy(0, 0), xy(2, 0), xy(2, 2), xy(0, 2)}, indexPairs(0, 1, 0, 3, 1, 2)},
		"a diamond":      {[]impl.Point{xy(0, 0), xy(2, 0), xy(1, 1), xy(1, -1)}, indexPairs(0, 1, 0, 2, 0, 3)},
		"a row":          {[]impl.Point{xy(6, 0), xy(0, 0), xy(3, 0), xy(4, 0), xy(1, 0)}, indexPairs(1, 4, 2, 3, 0, 3, 2, 4)},
		"not the plane":  {[]impl.Point{xy(0, 0), xy(3, 3), xy(0, 5)}, indexPairs(0, 2, 1, 2)},
		"the limits":     {[]impl.Point{xy(-1000, -1000), xy(1000, 1000)}, indexPairs(0, 1)},
	} {
		if tree := impl.SpanningTree(c.list); !slices.Equal(tree, c.want) {
			t.Errorf("%s: SpanningTree(%v) = %v, want %v", name, c.list, tree, c.want)
		}
	}
}

func TestP97P98P99P100InvalidLists(t *testing.T) {
	for _, list := range badLists() {
		if tree := impl.SpanningTree(list); tree != nil {
			t.Errorf("SpanningTree(%v) = %v", list, tree)
		}
		for n := range len(list) + 1 {
			var row []impl.Pair
			for i := range n {
				row = append(row, impl.Pair{A: max(i-1, 0), B: i})
			}
			for first := range min(n, 2) + 1 {
				if edges := row[first:]; impl.CheckSpanning(list, edges) || impl.TotalLength(list, edges) != -1 {
					t.Errorf("CheckSpanning(%v, %v) = %v, TotalLength = %d", list, edges, impl.CheckSpanning(list, edges), impl.TotalLength(list, edges))
				}
			}
		}
	}
}

func TestP98NoPathIsShorterThanTheTree(t *testing.T) {
	for _, list := range treeLists() {
		var path []impl.Pair
		for i := 1; i < len(list); i++ {
			path = append(path, impl.Pair{A: i - 1, B: i})
		}
		tree := impl.SpanningTree(list)
		if n, m := impl.TotalLength(list, tree), impl.TotalLength(list, path); n > m || n != totalSteps(list, tree) || m != totalSteps(list, path) {
			t.Fatalf("the length of SpanningTree(%v) = %v is %d, but the path has %d", list, tree, n, m)
		}
	}
}

// isShortestTree reports whether edges are a spanning tree as long as the shortest one.
func isShortestTree(list []impl.Point, edges []impl.Pair, shortest int) bool {
	return len(edges) == max(0, len(list)-1) && areConnected(len(list), edges) && totalSteps(list, edges) == shortest
}

// checkTree fails the test unless CheckSpanning accepts edges, all of whose
// indices are valid, exactly if they are a shortest spanning tree.
func checkTree(t *testing.T, list []impl.Point, edges []impl.Pair) bool {
	t.Helper()
	shortest := totalSteps(list, wantTree(list))
	before := slices.Clone(edges)
	accepted := impl.CheckSpanning(list, edges)
	if accepted != isShortestTree(list, edges, shortest) {
		t.Fatalf("CheckSpanning(%v, %v) = %v", list, edges, accepted)
	}
	if accepted && impl.TotalLength(list, edges) != impl.TotalLength(list, impl.SpanningTree(list)) {
		t.Fatalf("CheckSpanning(%v, %v) holds, but SpanningTree is %v", list, edges, impl.SpanningTree(list))
	}
	if !slices.Equal(edges, before) {
		t.Fatalf("CheckSpanning changes %v to %v", before, edges)
	}
	return accepted
}

// edgeLists calls f for all lists of n edges between indices that are less than
// a limit, those that connect an index with itself included.
func edgeLists(limit int, n int, edges []impl.Pair, f func(edges []impl.Pair)) {
	if len(edges) == n {
		f(slices.Clone(edges))
		return
	}
	for a := range limit {
		for b := range limit {
			edgeLists(limit, n, append(edges, impl.Pair{A: a, B: b}), f)
		}
	}
}

func TestP99AcceptedTreesAreEquallyLong(t *testing.T) {
	accepted, rejected := 0, 0
	r := fixedRandom()
	for range 20 {
		for size := range 5 {
			list := kdList(r, size, 3, 3)
			for n := range min(size+1, 4) {
				edgeLists(size, n, nil, func(edges []impl.Pair) {
					if checkTree(t, list, edges) {
						accepted++
					} else {
						rejected++
					}
				})
			}
		}
	}
	if min(accepted, rejected) < 1000 {
		t.Errorf("only %d trees are accepted and %d rejected", accepted, rejected)
	}
}

// changedTree returns a tree with an edge that another one replaces.
func changedTree(r *rand.Rand, n int, tree []impl.Pair) []impl.Pair {
	edges := slices.Clone(tree)
	edges[r.IntN(len(edges))] = impl.Pair{A: r.IntN(n), B: r.IntN(n)}
	return edges
}

func TestP99ChangedTrees(t *testing.T) {
	accepted, longer, apart := 0, 0, 0
	r := fixedRandom()
	for _, list := range treeLists() {
		n := len(list)
		if n < 2 {
			continue
		}
		tree := impl.SpanningTree(list)
		for range 20 {
			edges := changedTree(r, n, tree)
			switch {
			case checkTree(t, list, edges):
				accepted++
				tree = edges // so that other trees are changed as well
			case areConnected(n, edges):
				longer++
			default:
				apart++
			}
		}
	}
	if min(accepted, longer, apart) < 1000 {
		t.Errorf("only %d trees are accepted, %d are longer, and %d do not connect all", accepted, longer, apart)
	}
}

func TestP97P99TreesInAnyOrder(t *testing.T) {
	r := fixedRandom()
	for _, list := range treeLists() {
		tree := impl.SpanningTree(list)
		r.Shuffle(len(tree), func(i, k int) { tree[i], tree[k] = tree[k], tree[i] })
		for i, e := range tree {
			if r.IntN(2) == 0 {
				tree[i] = impl.Pair{A: e.B, B: e.A}
			}
		}
		if !impl.CheckSpanning(list, tree) || impl.TotalLength(list, tree) != totalSteps(list, wantTree(list)) {
			t.Fatalf("CheckSpanning(%v, %v) fails", list, tree)
		}
	}
}

func TestP97P99AnEdgeTooManyOrTooFew(t *testing.T) {
	for _, list := range treeLists() {
		tree := impl.SpanningTree(list)
		for i := range tree {
			if less := slices.Delete(slices.Clone(tree), i, i+1); impl.CheckSpanning(list, less) {
				t.Fatalf("CheckSpanning(%v, %v) holds", list, less)
			}
			if more := append(slices.Clone(tree), tree[i]); impl.CheckSpanning(list, more) {
				t.Fatalf("CheckSpanning(%v, %v) holds", list, more)
			}
		}
		if more := append(slices.Clone(tree), impl.Pair{}); impl.CheckSpanning(list, more) {
			t.Fatalf("CheckSpanning(%v, %v) holds", list, more)
		}
	}
}

func TestP99OrdinaryTrees(t *testing.T) {
	list := []impl.Point{xy(0, 0), xy(5, 0), xy(1, 1), xy(5, 2)}
	square := []impl.Point{xy(0, 0), xy(2, 0), xy(2, 2), xy(0, 2)}
	equal := make([]impl.Point, 3)
	for name, c := range map[string]struct {
		list  []impl.Point
		edges []impl.Pair
		want  bool
	}{
		"nothing":               {nil, nil, true},
		"an empty list":         {[]impl.Point{}, []impl.Pair{}, true},
		"nothing with an edge":  {nil, indexPairs(0, 0), false},
		"one point":             {[]impl.Point{xy(7, 7)}, nil, true},
		"one point with itself": {[]impl.Point{xy(7, 7)}, indexPairs(0, 0), false},
		"two points":            {list[:2], indexPairs(0, 1), true},
		"exchanged":             {list[:2], indexPairs(1, 0), true},
		"two without an edge":   {list[:2], nil, false},
		"two with themselves":   {list[:2], indexPairs(1, 1), false},
		"two edges":             {list[:2], indexPairs(0, 1, 0, 1), false},
		"four points":           {list, indexPairs(0, 2, 1, 3, 0, 1), true},
		"another one":           {list, indexPairs(2, 1, 3, 1, 2, 0), true},
		"longer":                {list, indexPairs(0, 2, 1, 3, 0, 3), false},
		"not connected":         {list, indexPairs(0, 2, 1, 3, 2, 0), false},
		"a circle":              {list, indexPairs(0, 1, 1, 2, 2, 0), false},
		"with itself":           {list, indexPairs(0, 2, 1, 3, 2, 2), false},
		"three sides":           {square, indexPairs(1, 2, 2, 3, 3, 0), true},
		"a diagonal":            {square, indexPairs(1, 2, 2, 3, 0, 2), false},
		"equal points":          {equal, indexPairs(2, 1, 0, 2), true},
		"equal with themselves": {equal, indexPairs(0, 1, 2, 2), false},
		"equal, not connected":  {equal, indexPairs(0, 1, 1, 0), false},
	} {
		if got := impl.CheckSpanning(c.list, c.edges); got != c.want {
			t.Errorf("%s: CheckSpanning(%v, %v) = %v", name, c.list, c.edges, got)
		}
	}
}

func TestP99P100InvalidIndices(t *testing.T) {
	for _, list := range [][]impl.Point{{}, {xy(0, 0)}, {xy(0, 0), xy(1, 0)}, manyPoints(5), manyPoints(impl.MaxPoints)} {
		n, tree := len(list), impl.SpanningTree(list)
		for _, bad := range []int{-1, -2, -n - 1, n, n + 1, 2 * n, math.MinInt, math.MaxInt} {
			if bad >= 0 && bad < n {
				continue
			}
			for _, e := range []impl.Pair{{A: bad}, {B: bad}, {A: bad, B: bad}, {A: n - 1, B: bad}, {A: bad, B: n - 1}} {
				edges := append([]impl.Pair{e}, tree...)
				for range edges {
					edges = append(edges[1:], edges[0])
					checkInvalid(t, list, edges)
					checkInvalid(t, list, edges[:max(n-1, 0)])
				}
			}
		}
	}
}

// checkInvalid fails the test if edges with an index that is no index of a point are accepted.
func checkInvalid(t *testing.T, list []impl.Point, edges []impl.Pair) {
	t.Helper()
	valid := true
	for _, e := range edges {
		valid = valid && min(e.A, e.B) >= 0 && max(e.A, e.B) < len(list)
	}
	want := -1
	if valid {
		want = totalSteps(list, edges)
	}
	if n := impl.TotalLength(list, edges); n != want {
		t.Errorf("TotalLength(%v, %v) = %d, want %d", list, edges, n, want)
	}
	if !valid && impl.CheckSpanning(list, edges) {
		t.Errorf("CheckSpanning(%v, %v) holds", list, edges)
	}
}

// randomEdges returns n edges between indices of a list that is not empty.
func randomEdges(r *rand.Rand, list []impl.Point, n int) []impl.Pair {
	var edges []impl.Pair
	for range n {
		edges = append(edges, impl.Pair{A: r.IntN(len(list)), B: r.IntN(len(list))})
	}
	return edges
}

func TestP100LengthsAddUp(t *testing.T) {
	r := fixedRandom()
	for _, list := range treeLists() {
		if len(list) == 0 {
			continue
		}
		edges := randomEdges(r, list, r.IntN(impl.MaxPoints+1))
		before := slices.Clone(edges)
		all := 0
		keepsPoints(t, "TotalLength", list, func(list []impl.Point) { all = impl.TotalLength(list, edges) })
		if all != totalSteps(list, edges) || !slices.Equal(edges, before) {
			t.Fatalf("TotalLength(%v, %v) = %d, want %d", list, edges, all, totalSteps(list, edges))
		}
		for k := range len(edges) + 1 {
			if n := impl.TotalLength(list, edges[:k]) + impl.TotalLength(list, edges[k:]); n != all {
				t.Fatalf("TotalLength(%v, %v) = %d, but %d in two parts", list, edges, all, n)
			}
		}
	}
}

func TestP100NumberOfEdges(t *testing.T) {
	list := []impl.Point{xy(-1000, -1000), xy(1000, 1000), xy(0, 0)}
	for n := range 3 * impl.MaxPoints {
		for _, c := range []struct {
			e      impl.Pair
			length int
		}{{impl.Pair{A: 0, B: 1}, 4000}, {impl.Pair{A: 2, B: 1}, 2000}, {impl.Pair{A: 1, B: 1}, 0}} {
			want := n * c.length
			if n > 20 {
				want = -1
			}
			if got := impl.TotalLength(list, slices.Repeat([]impl.Pair{c.e}, n)); got != want {
				t.Errorf("TotalLength of %d edges %v = %d, want %d", n, c.e, got, want)
			}
		}
	}
	// These must not take long, though they are many.
	many := make([]impl.Pair, 10000000)
	if n := impl.TotalLength(list, many); n != -1 || impl.CheckSpanning(list, many) {
		t.Errorf("TotalLength of ten million edges = %d", n)
	}
}

func TestP100OrdinaryLengths(t *testing.T) {
	list := []impl.Point{xy(0, 0), xy(5, 0), xy(1, 1), xy(5, 2)}
	for _, c := range []struct {
		list  []impl.Point
		edges []impl.Pair
		want  int
	}{
		{nil, nil, 0}, {list, nil, 0}, {list, indexPairs(0, 2, 1, 3, 0, 1), 9}, {list, indexPairs(2, 0, 3, 1, 1, 0), 9}, {list, indexPairs(0, 3), 7},
		{list, indexPairs(0, 0), 0}, {list, indexPairs(3, 3, 0, 2, 3, 3), 2}, {list, indexPairs(0, 2, 0, 2, 2, 0), 6}, {list, indexPairs(0, 1, 0, 2, 0, 3, 1, 2, 1, 3, 2, 3), 26},
		{nil, indexPairs(0, 0), -1}, {list, indexPairs(0, 4), -1}, {list, indexPairs(4, 4), -1}, {list, indexPairs(0, 1, -1, 0), -1},
	} {
		if n := impl.TotalLength(c.list, c.edges); n != c.want {
			t.Errorf("TotalLength(%v, %v) = %d, want %d", c.list, c.edges, n, c.want)
		}
	}
}

func TestP145MovingKeepsTrees(t *testing.T) {
	count := 0
	for _, list := range treeLists() {
		tree := impl.SpanningTree(list)
		for _, v := range []impl.Point{xy(1, 0), xy(0, -1), xy(-37, 91), xy(900, 900), xy(-990, 3)} {
			other := moved(list, v)
			if impl.SortPoints(other) == nil {
				continue // no points, or too far
			}
			count++
			if got := impl.SpanningTree(other); !slices.Equal(got, tree) || impl.TotalLength(other, got) != impl.TotalLength(list, tree) {
				t.Fatalf("SpanningTree(%v) = %v, but %v moved by %v", list, tree, got, v)
			}
			if !impl.CheckSpanning(other, tree) {
				t.Fatalf("CheckSpanning(%v, %v) fails after a move", other, tree)
			}
		}
	}
	if count < 1000 {
		t.Errorf("only %d lists are moved", count)
	}
}
