package tests

import (
	"math"
	"slices"
	"testing"

	"loop.example/planargeometry/impl"
)

// wantDiagonal returns the result that IsDiagonal should have for a simple polygon.
func wantDiagonal(p []impl.Point, i int, k int) bool {
	n := len(p)
	if min(i, k) < 0 || max(i, k) >= n || i == k || (i+1)%n == k || (k+1)%n == i {
		return false
	}
	s := seg(p[i], p[k])
	for v := range p {
		if v != i && v != k && between(s, p[v]) {
			return false
		}
		if e := edge(p, v); sidesDiffer(s, e.A, e.B) && sidesDiffer(e, s.A, s.B) {
			return false
		}
	}
	// It meets no other edge, so all of it is on the same side as its middle.
	return placeIn(times(p, 2), shift(p[i], p[k])) == 1
}

// wantDiagonals returns the result that DiagonalsOf should have for a simple polygon.
func wantDiagonals(p []impl.Point) []impl.Pair {
	var pairs []impl.Pair
	for a := range p {
		for b := a + 1; b < len(p); b++ {
			if wantDiagonal(p, a, b) {
				pairs = append(pairs, impl.Pair{A: a, B: b})
			}
		}
	}
	return pairs
}

// diagonalPolygons returns simple polygons in both directions: with and
// without vertices on straight lines, convex ones, and with many teeth.
func diagonalPolygons() [][]impl.Point {
	list := append(allPolygons(), flatPolygons()...)
	list = append(list, sharpComb(), star(10, 1000, 300), star(10, 1000, 950), star(5, 100, 20), wantHull(pointsOnCircle(xy(0, 0), 40)))
	for _, c := range namedDiagonals() {
		list = append(list, c.p)
	}
	for _, p := range slices.Clone(list) {
		list = append(list, reversed(p))
	}
	return list
}

// diagonalCase is a polygon with its diagonals.
type diagonalCase struct {
	p    []impl.Point
	want []impl.Pair
}

// namedDiagonals returns polygons whose vertices are connected by segments
// inside and outside, through vertices and along edges.
func namedDiagonals() map[string]diagonalCase {
	return map[string]diagonalCase{
		"a triangle":            {[]impl.Point{xy(0, 0), xy(4, 0), xy(0, 4)}, nil},
		"a clockwise triangle":  {[]impl.Point{xy(0, 0), xy(0, 4), xy(4, 0)}, nil},
		"a square":              {[]impl.Point{xy(0, 0), xy(4, 0), xy(4, 4), xy(0, 4)}, indexPairs(0, 2, 1, 3)},
		"a clockwise square":    {[]impl.Point{xy(0, 4), xy(4, 4), xy(4, 0), xy(0, 0)}, indexPairs(0, 2, 1, 3)},
		"the largest square":    {[]impl.Point{xy(-1000, -1000), xy(1000, -1000), xy(1000, 1000), xy(-1000, 1000)}, indexPairs(0, 2, 1, 3)},
		"a dent":                {[]impl.Point{xy(0, 0), xy(4, 0), xy(4, 4), xy(2, 1), xy(0, 4)}, indexPairs(0, 3, 1, 3)},
		"a clockwise dent":      {[]impl.Point{xy(0, 4), xy(2, 1), xy(4, 4), xy(4, 0), xy(0, 0)}, indexPairs(1, 3, 1, 4)},
		"an arrow":              {[]impl.Point{xy(0, 0), xy(4, 4), xy(0, 8), xy(2, 4)}, indexPairs(1, 3)},
		"along an edge":         {[]impl.Point{xy(0, 0), xy(2, 0), xy(4, 0), xy(0, 4)}, indexPairs(1, 3)},
		"along a clockwise one": {[]impl.Point{xy(0, 4), xy(4, 0), xy(2, 0), xy(0, 0)}, indexPairs(0, 2)},
		"along two edges":       {[]impl.Point{xy(0, 0), xy(2, 0), xy(4, 0), xy(4, 3), xy(2, 3), xy(0, 3)}, indexPairs(0, 3, 0, 4, 1, 3, 1, 4, 1, 5, 2, 4, 2, 5)},
		"along half of it":      {[]impl.Point{xy(0, 0), xy(6, 0), xy(6, 6), xy(4, 6), xy(4, 3), xy(4, 2), xy(2, 2), xy(0, 2)}, indexPairs(0, 5, 0, 6, 1, 3, 1, 4, 1, 5, 1, 6, 1, 7, 2, 4, 2, 5)},
		"through a vertex":      {[]impl.Point{xy(0, 0), xy(4, 0), xy(4, 4), xy(2, 2), xy(1, 3)}, indexPairs(0, 3, 1, 3)},
		"through two vertices":  {[]impl.Point{xy(0, 0), xy(6, 0), xy(6, 6), xy(4, 3), xy(2, 3), xy(0, 3)}, indexPairs(0, 3, 0, 4, 1, 3, 1, 4, 1, 5)},
		"teeth of one height":   {[]impl.Point{xy(0, 0), xy(8, 0), xy(8, 4), xy(6, 1), xy(4, 4), xy(2, 1), xy(0, 4)}, indexPairs(0, 3, 0, 5, 1, 3, 1, 5, 3, 5)},
		"a tooth that reaches":  {[]impl.Point{xy(0, 0), xy(4, 0), xy(8, 0), xy(8, 8), xy(5, 8), xy(4, 4), xy(3, 8), xy(0, 8)}, indexPairs(0, 5, 0, 6, 1, 3, 1, 4, 1, 5, 1, 6, 1, 7, 2, 4, 2, 5, 3, 5, 5, 7)},
	}
}

func TestP72DiagonalsAreSymmetric(t *testing.T) {
	for _, p := range diagonalPolygons() {
		before := slices.Clone(p)
		for i := -2; i < len(p)+2; i++ {
			for k := i; k < len(p)+2; k++ {
				got, back := impl.IsDiagonal(p, i, k), impl.IsDiagonal(p, k, i)
				if got != wantDiagonal(p, i, k) || got != back {
					t.Fatalf("IsDiagonal(%v, %d, %d) = %v, exchanged %v", p, i, k, got, back)
				}
			}
		}
		sameList(t, "the argument of IsDiagonal", p, before)
	}
}

func TestP72EdgesAreNoDiagonals(t *testing.T) {
	for _, p := range diagonalPolygons() {
		for i := range p {
			next := (i + 1) % len(p)
			if impl.IsDiagonal(p, i, next) || impl.IsDiagonal(p, next, i) || impl.IsDiagonal(p, i, i) {
				t.Fatalf("IsDiagonal(%v) holds for the vertex %d and the next one or itself", p, i)
			}
		}
	}
}

func TestP72DiagonalsOfOtherDirectionsAndFirstVertices(t *testing.T) {
	for _, p := range smallPolygons() {
		n := len(p)
		back, next := reversed(p), rotated(p, 1)
		for i := range n {
			for k := range n {
				got := impl.IsDiagonal(p, i, k)
				if got != impl.IsDiagonal(back, n-1-i, n-1-k) || got != impl.IsDiagonal(next, (i+n-1)%n, (k+n-1)%n) {
					t.Fatalf("IsDiagonal(%v, %d, %d) = %v, but not in another order of the vertices", p, i, k, got)
				}
			}
		}
	}
}

func TestP72InvalidIndices(t *testing.T) {
	square := []impl.Point{xy(0, 0), xy(4, 0), xy(4, 4), xy(0, 4)}
	for _, p := range [][]impl.Point{square, comb(), manyPoints(impl.MaxVertices)} {
		n := len(p)
		for _, bad := range []int{-1, -2, n, n + 1, n + 2, -n, 2 * n, math.MinInt, math.MaxInt} {
			for _, pair := range [][2]int{{bad, 0}, {bad, 1}, {bad, 2}, {bad, n - 1}, {bad, n - 2}, {bad, bad}, {bad, math.MaxInt}, {bad, -1}} {
				isNoDiagonal(t, p, pair[0], pair[1])
				isNoDiagonal(t, p, pair[1], pair[0])
			}
		}
	}
}

// isNoDiagonal fails the test unless two numbers are rejected as a diagonal of a polygon.
func isNoDiagonal(t *testing.T, p []impl.Point, i int, k int) {
	t.Helper()
	if impl.IsDiagonal(p, i, k) {
		t.Errorf("IsDiagonal(%v, %d, %d) holds", p, i, k)
	}
	if a, b, ok := impl.SplitPolygon(p, i, k); a != nil || b != nil || ok {
		t.Errorf("SplitPolygon(%v, %d, %d) = %v, %v, %v", p, i, k, a, b, ok)
	}
}

func TestP72P74P76PolygonsThatAreNotSimple(t *testing.T) {
	for name, p := range notSimple() {
		for _, q := range [][]impl.Point{p, reversed(p)} {
			if pairs := impl.DiagonalsOf(q); pairs != nil {
				t.Errorf("%s: DiagonalsOf(%v) = %v", name, q, pairs)
			}
			for i := -1; i <= min(len(q), 25); i++ {
				for k := -1; k <= min(len(q), 25); k++ {
					isNoDiagonal(t, q, i, k)
				}
			}
		}
	}
	// This must not take long, though it has many pairs of vertices.
	if pairs := impl.DiagonalsOf(manyPoints(1000000)); pairs != nil {
		t.Errorf("DiagonalsOf a million vertices = %v", pairs)
	}
}

func TestP73DiagonalsAreInside(t *testing.T) {
	whole := 0
	for _, p := range diagonalPolygons() {
		for _, d := range impl.DiagonalsOf(p) {
			twice := shift(p[d.A], p[d.B])
			if twice.X%2 != 0 || twice.Y%2 != 0 {
				continue
			}
			whole++
			if middle := xy(twice.X/2, twice.Y/2); impl.Locate(p, middle) != 1 {
				t.Fatalf("Locate(%v, %v) = %d is in the middle of %v", p, middle, impl.Locate(p, middle), d)
			}
		}
	}
	if whole < 1000 {
		t.Errorf("only %d middles have whole coordinates", whole)
	}
}

func TestP73AllPointsOfDiagonalsAreInside(t *testing.T) {
	for _, p := range smallPolygons() {
		large := times(p, 60) // so that the points have integer coordinates
		for _, d := range impl.DiagonalsOf(p) {
			from, to := p[d.A], p[d.B]
			for n := 1; n < 60; n++ {
				q := xy((60-n)*from.X+n*to.X, (60-n)*from.Y+n*to.Y)
				if placeIn(large, q) != 1 {
					t.Fatalf("%v is a diagonal of %v, but %v/60 is not inside", d, p, q)
				}
			}
		}
	}
}

func TestP74EveryPolygonWithMoreThanThreeVerticesHasADiagonal(t *testing.T) {
	for _, p := range diagonalPolygons() {
		array := append(slices.Clone(p), xy(7, 7), xy(8, 8))
		before := slices.Clone(array)
		got := impl.DiagonalsOf(array[:len(p)])
		if want := wantDiagonals(p); !slices.Equal(got, want) {
			t.Fatalf("DiagonalsOf(%v) = %v, want %v", p, got, want)
		}
		if (len(got) > 0) != (len(p) > 3) {
			t.Fatalf("DiagonalsOf(%v) = %v", p, got)
		}
		var pairs []impl.Pair
		for a := range p {
			for b := a; b < len(p); b++ {
				if impl.IsDiagonal(p, a, b) {
					pairs = append(pairs, impl.Pair{A: a, B: b})
				}
			}
		}
		if !slices.Equal(got, pairs) {
			t.Fatalf("DiagonalsOf(%v) = %v, but IsDiagonal holds for %v", p, got, pairs)
		}
		sameList(t, "the argument of DiagonalsOf", array, before)
	}
}

func TestP74OrdinaryDiagonals(t *testing.T) {
	for name, c := range namedDiagonals() {
		if got := impl.DiagonalsOf(c.p); !slices.Equal(got, c.want) {
			t.Errorf("%s: DiagonalsOf(%v) = %v, want %v", name, c.p, got, c.want)
		}
	}
}

func TestP75ConvexPolygonsHaveAllDiagonals(t *testing.T) {
	convex := 0
	lists := diagonalPolygons()
	for n := 3; n <= impl.MaxVertices; n++ {
		lists = append(lists, manyPoints(n), reversed(manyPoints(n)))
	}
	for _, p := range lists {
		n := len(p)
		if !impl.IsConvex(p) && !impl.IsConvex(reversed(p)) {
			continue
		}
		convex++
		pairs := impl.DiagonalsOf(p)
		if len(pairs) != n*(n-3)/2 {
			t.Fatalf("DiagonalsOf(%v) = %v", p, pairs)
		}
		for i := range p {
			for k := i + 2; k < n && k < i+n-1; k++ {
				if !slices.Contains(pairs, impl.Pair{A: i, B: k}) {
					t.Fatalf("DiagonalsOf(%v) = %v is without %d, %d", p, pairs, i, k)
				}
			}
		}
	}
	if convex < 100 {
		t.Errorf("only %d polygons are convex", convex)
	}
}

// fromTo returns the vertices of a polygon from i to k (cyclically).
func fromTo(p []impl.Point, i int, k int) []impl.Point {
	list := []impl.Point{p[i]}
	for i != k {
		i = (i + 1) % len(p)
		list = append(list, p[i])
	}
	return list
}

func TestP76DiagonalsDividePolygons(t *testing.T) {
	for _, p := range diagonalPolygons() {
		for i := range p {
			for k := range p {
				a, b, ok := impl.SplitPolygon(p, i, k)
				if ok != wantDiagonal(p, i, k) || !ok && (a != nil || b != nil) {
					t.Fatalf("SplitPolygon(%v, %d, %d) = %v, %v, %v", p, i, k, a, b, ok)
				}
				if !ok {
					continue
				}
				sameList(t, "the first part", a, fromTo(p, i, k))
				sameList(t, "the second part", b, fromTo(p, k, i))
				if len(a)+len(b) != len(p)+2 || !impl.IsSimple(a) || !impl.IsSimple(b) || impl.DoubleArea(a)+impl.DoubleArea(b) != impl.DoubleArea(p) {
					t.Fatalf("SplitPolygon(%v, %d, %d) = %v, %v", p, i, k, a, b)
				}
				if first := min(areaOf(a), areaOf(b)) > 0; first != (areaOf(p) > 0) {
					t.Fatalf("SplitPolygon(%v, %d, %d) = %v, %v in another direction", p, i, k, a, b)
				}
			}
		}
	}
}

func TestP76OrdinaryParts(t *testing.T) {
	dent := []impl.Point{xy(0, 0), xy(4, 0), xy(4, 4), xy(2, 1), xy(0, 4)}
	square := []impl.Point{xy(0, 4), xy(4, 4), xy(4, 0), xy(0, 0)}
	for _, c := range []struct {
		p    []impl.Point
		i, k int
		a, b []impl.Point
	}{
		{dent, 0, 3, dent[:4], []impl.Point{xy(2, 1), xy(0, 4), xy(0, 0)}}, {dent, 3, 0, []impl.Point{xy(2, 1), xy(0, 4), xy(0, 0)}, dent[:4]},
		{dent, 1, 3, dent[1:4], []impl.Point{xy(2, 1), xy(0, 4), xy(0, 0), xy(4, 0)}}, {dent, 2, 4, nil, nil}, {dent, 0, 2, nil, nil}, {dent, 0, 4, nil, nil},
		{square, 0, 2, square[:3], []impl.Point{xy(4, 0), xy(0, 0), xy(0, 4)}}, {square, 3, 1, []impl.Point{xy(0, 0), xy(0, 4), xy(4, 4)}, square[1:]},
		{square, 1, 1, nil, nil}, {square, 1, 2, nil, nil}, {square, 0, 3, nil, nil}, {square, 3, 0, nil, nil}, {square, 0, 4, nil, nil}, {square, -1, 1, nil, nil},
	} {
		a, b, ok := impl.SplitPolygon(c.p, c.i, c.k)
		if !slices.Equal(a, c.a) || !slices.Equal(b, c.b) || ok != (c.a != nil) {
			t.Errorf("SplitPolygon(%v, %d, %d) = %v, %v, %v, want %v, %v", c.p, c.i, c.k, a, b, ok, c.a, c.b)
		}
	}
}

func TestP76PartsShareNoMemory(t *testing.T) {
	p := manyPoints(8)
	for i := range p {
		for k := range p {
			for first := range 2 {
				keepsArgument(t, "SplitPolygon", p, func(p []impl.Point) []impl.Point {
					a, b, _ := impl.SplitPolygon(p, i, k)
					if first == 0 {
						return a
					}
					return b
				})
			}
			a, b, ok := impl.SplitPolygon(p, i, k)
			if !ok {
				continue
			}
			clear(a[:cap(a)])
			sameList(t, "the second part", b, fromTo(p, k, i))
			a, b, _ = impl.SplitPolygon(p, i, k)
			clear(b[:cap(b)])
			sameList(t, "the first part", a, fromTo(p, i, k))
		}
	}
}

func TestP140EarsAreCutOffByDiagonals(t *testing.T) {
	ears := 0
	for _, p := range cutPolygons() {
		n := len(p)
		if n == 3 {
			continue
		}
		for _, v := range impl.EarsOf(p) {
			ears++
			before, after := (v+n-1)%n, (v+1)%n
			a, b, ok := impl.SplitPolygon(p, before, after)
			if !ok || !impl.IsDiagonal(p, before, after) || !impl.IsDiagonal(p, after, before) || len(a) != 3 || len(b) != n-1 {
				t.Fatalf("the ear %d of %v is not cut off by a diagonal", v, p)
			}
		}
	}
	if ears < 1000 {
		t.Errorf("only %d ears", ears)
	}
}

func TestP141SidesOfTrianglesAreEdgesOrDiagonals(t *testing.T) {
	for _, p := range cutPolygons() {
		n, edges, diagonals := len(p), 0, 0
		all := impl.DiagonalsOf(p)
		for _, u := range impl.Triangulate(p) {
			for _, side := range [][2]int{{u.A, u.B}, {u.B, u.C}, {u.C, u.A}} {
				a, b := side[0], side[1]
				switch {
				case (a+1)%n == b || (b+1)%n == a:
					edges++
				case slices.Contains(all, impl.Pair{A: min(a, b), B: max(a, b)}) && impl.IsDiagonal(p, a, b):
					diagonals++
				default:
					t.Fatalf("%d to %d of the triangle %v is no diagonal of %v", a, b, u, p)
				}
			}
		}
		if edges != n || diagonals != 2*(n-3) {
			t.Fatalf("the triangles of %v have %d edges and %d diagonals", p, edges, diagonals)
		}
	}
}
