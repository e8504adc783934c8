package tests

import (
	"cmp"
	"math"
	"math/big"
	"math/rand/v2"
	"slices"
	"testing"

	"loop.example/planargeometry/impl"
)

// centerOf returns the center of the circle through three points that are not on one line.
func centerOf(a impl.Point, b impl.Point, c impl.Point) (*big.Rat, *big.Rat) {
	// The center is on the bisectors of a, b and of a, c: for both other
	// points p, 2*(p-a)*center is the difference of the squares of p and a.
	square := func(p impl.Point) int { return dotOf(p, p) }
	bx, by, bn := 2*(b.X-a.X), 2*(b.Y-a.Y), square(b)-square(a)
	cx, cy, cn := 2*(c.X-a.X), 2*(c.Y-a.Y), square(c)-square(a)
	return exact(bn*cy-cn*by, bx*cy-cx*by), exact(bx*cn-cx*bn, bx*cy-cx*by)
}

// squareTo returns the squared distance of a point from another one.
func squareTo(x *big.Rat, y *big.Rat, p impl.Point) *big.Rat {
	dx, dy := difference(x, big1(p.X)), difference(y, big1(p.Y))
	return sum(product(dx, dx), product(dy, dy))
}

// circlePlace returns 1, 0 or -1 if d is inside of the circle through a, b and c, on it, or outside; 2 if they are on one line.
func circlePlace(a impl.Point, b impl.Point, c impl.Point, d impl.Point) int {
	if crossOf(a, b, c) == 0 {
		return 2
	}
	x, y := centerOf(a, b, c)
	return squareTo(x, y, a).Cmp(squareTo(x, y, d))
}

func TestP54AllSmallCircles(t *testing.T) {
	count := map[int]int{}
	points := grid(4, 4, xy(-1, -2))
	triples(points, func(a, b, c impl.Point) {
		for _, d := range points {
			got := impl.InCircle(a, b, c, d)
			if want := circlePlace(a, b, c, d); got != want {
				t.Fatalf("InCircle(%v, %v, %v, %v) = %d, want %d", a, b, c, d, got, want)
			}
			count[got]++
		}
	})
	if min(count[-1], count[0], count[1], count[2]) < 5000 {
		t.Errorf("too few circles of a kind: %v", count)
	}
}

// pointsOnCircle returns points with the same distance from a center: all that
// have the coordinates 0, 7, 15, 20, 24 or 25, or their negatives, times a factor.
func pointsOnCircle(center impl.Point, factor int) []impl.Point {
	var list []impl.Point
	for _, p := range []impl.Point{xy(25, 0), xy(24, 7), xy(20, 15), xy(15, 20), xy(7, 24)} {
		for range 4 {
			list = append(list, shift(center, xy(factor*p.X, factor*p.Y)))
			p = xy(-p.Y, p.X)
		}
	}
	return list
}

// somePlaces returns points at the limits, points on large circles, and others.
func somePlaces() []impl.Point {
	list := []impl.Point{xy(-1000, -1000), xy(1000, -1000), xy(1000, 1000), xy(-1000, 1000), xy(999, 1000), xy(-1000, 0), xy(0, 1000), xy(0, 999)}
	list = append(list, pointsOnCircle(xy(0, 0), 40)[:7]...)
	r := fixedRandom()
	for range 4 {
		list = append(list, randomPoint(r, impl.MaxCoord))
	}
	return list
}

func TestP54CirclesDoNotDependOnTheOrderOfTheirPoints(t *testing.T) {
	points := somePlaces()
	triples(points, func(a, b, c impl.Point) {
		for _, d := range points {
			want := circlePlace(a, b, c, d)
			for _, p := range [][3]impl.Point{{a, b, c}, {b, c, a}, {c, a, b}, {c, b, a}, {b, a, c}, {a, c, b}} {
				if got := impl.InCircle(p[0], p[1], p[2], d); got != want {
					t.Fatalf("InCircle(%v, %v) = %d, want %d", p, d, got, want)
				}
			}
		}
	})
}

func TestP54PointsOfTheCircleAreOnIt(t *testing.T) {
	for _, list := range [][]impl.Point{pointsOnCircle(xy(0, 0), 40), pointsOnCircle(xy(-900, 950), 2), pointsOnCircle(xy(3, 4), 1)} {
		triples(list, func(a, b, c impl.Point) {
			if a == b || b == c || c == a {
				return
			}
			for _, d := range append(list, a, b, c) {
				if got := impl.InCircle(a, b, c, d); got != 0 {
					t.Fatalf("InCircle(%v, %v, %v, %v) = %d", a, b, c, d, got)
				}
			}
		})
	}
}

func TestP54OrdinaryCircles(t *testing.T) {
	a, b, c := xy(0, 0), xy(4, 0), xy(0, 4)
	for d, want := range map[impl.Point]int{
		xy(2, 2): 1, xy(4, 4): 0, xy(4, 5): -1, xy(0, 0): 0, xy(4, 0): 0, xy(0, 4): 0, xy(-1, 1): -1, xy(1, 1): 1, xy(2, -1): -1,
		xy(5, 2): -1, xy(4, 3): 1, xy(1, 4): 1, xy(1000, 1000): -1, xy(-1000, -1000): -1,
	} {
		if got := impl.InCircle(a, b, c, d); got != want {
			t.Errorf("InCircle of %v = %d, want %d", d, got, want)
		}
		if got := impl.InCircle(a, c, b, d); got != want {
			t.Errorf("InCircle of %v in the other direction = %d, want %d", d, got, want)
		}
	}
	low, high := xy(-1000, -1000), xy(1000, 1000)
	if impl.InCircle(low, xy(1000, -1000), high, xy(-1000, 1000)) != 0 || impl.InCircle(low, xy(1000, -1000), high, xy(-1000, 999)) != 1 || impl.InCircle(low, xy(1000, -1000), xy(999, 1000), xy(-1000, 1000)) != -1 {
		t.Error("InCircle of points at the limits")
	}
}

func TestP54InvalidPoints(t *testing.T) {
	a, b, c, d := xy(-1000, -1000), xy(1000, -1000), xy(0, 1000), xy(0, 0)
	if impl.InCircle(a, b, c, d) != 1 {
		t.Error("InCircle of points at the limits")
	}
	for _, bad := range badPoints() {
		for _, p := range [][4]impl.Point{{bad, b, c, d}, {a, bad, c, d}, {a, b, bad, d}, {a, b, c, bad}, {bad, bad, bad, bad}, {a, a, a, bad}} {
			if got := impl.InCircle(p[0], p[1], p[2], p[3]); got != 2 {
				t.Errorf("InCircle(%v) = %d", p, got)
			}
		}
	}
	for _, p := range [][4]impl.Point{{a, a, b, c}, {a, b, b, c}, {a, b, a, c}, {a, a, a, a}, {xy(0, 0), xy(1, 2), xy(3, 6), xy(5, 5)}, {a, d, xy(1000, 1000), b}} {
		if got := impl.InCircle(p[0], p[1], p[2], p[3]); got != 2 {
			t.Errorf("InCircle(%v) = %d", p, got)
		}
	}
}

func TestP55PointsOfATriangleAreInItsCircle(t *testing.T) {
	for _, points := range [][]impl.Point{grid(4, 3, xy(5, 5)), somePlaces()} {
		triples(points, func(a, b, c impl.Point) {
			for _, d := range points {
				if impl.InTriangle(a, b, c, d) && impl.InCircle(a, b, c, d) < 0 {
					t.Fatalf("InCircle(%v, %v, %v, %v) = -1", a, b, c, d)
				}
			}
		})
	}
}

// inOrder returns points in order, each once.
func inOrder(list []impl.Point) []impl.Point {
	out := slices.Clone(list)
	slices.SortFunc(out, func(p impl.Point, q impl.Point) int { return cmp.Or(cmp.Compare(p.X, q.X), cmp.Compare(p.Y, q.Y)) })
	return slices.Compact(out)
}

// sortedLists returns lists of points in order with points on one line, on one circle, and on grids.
func sortedLists() [][]impl.Point {
	lists := append(someLists(), somePlaces(), pointsOnCircle(xy(0, 0), 40), pointsOnCircle(xy(1, 2), 1), grid(10, 2, xy(0, 0)), grid(2, 10, xy(0, 0)))
	lists = append(lists, star(10, 1000, 300), star(10, 1000, 999), star(6, 10, 4))
	r := fixedRandom()
	for range 300 {
		circle := append(pointsOnCircle(xy(1, -1), 1), xy(1, -1), xy(0, 0), xy(20, 20), xy(-24, 6))
		r.Shuffle(len(circle), func(i, k int) { circle[i], circle[k] = circle[k], circle[i] })
		lists = append(lists, circle[:r.IntN(impl.MaxPoints+1)])
		// Points beside a line that has many of them.
		line := pointsOnLine(r)
		for i := range line {
			if r.IntN(4) == 0 {
				line[i] = shift(line[i], randomPoint(r, 3))
			}
		}
		lists = append(lists, line)
	}
	for i, list := range lists {
		lists[i] = inOrder(list)
	}
	return lists
}

// notSorted returns lists that are not valid, or not in order, each point once.
func notSorted() [][]impl.Point {
	lists := badLists()
	for _, p := range [][]impl.Point{{xy(0, 0), xy(4, 0), xy(5, 9)}, {xy(0, 0), xy(0, 1), xy(0, 2), xy(1, 0)}, manyPoints(impl.MaxPoints)} {
		for i := range p[1:] {
			swapped := slices.Clone(p)
			swapped[i], swapped[i+1] = swapped[i+1], swapped[i]
			lists = append(lists, swapped, slices.Insert(slices.Clone(p[:len(p)-1]), i, p[i]))
		}
		lists = append(lists, reversed(p))
	}
	long := manyPoints(impl.MaxPoints)
	return append(lists, append(long, xy(21, 0)), append(slices.Clone(long[:19]), xy(20, 1001)), append([]impl.Point{xy(-1001, 0)}, long[:5]...))
}

// lineStart returns how many of the first points of a list are on one line.
func lineStart(p []impl.Point) int {
	n := 0
	for n < len(p) && onOneLine(p[:n+1]) {
		n++
	}
	return n
}

// nextBoundary returns the triangles of a point with the sides of a boundary
// that are seen, and the boundary with the point.
func nextBoundary(p []impl.Point, boundary []int, next int) ([]impl.Triangle, []int) {
	n := len(boundary)
	isSeen := func(i int) bool {
		return crossOf(p[boundary[(i+n)%n]], p[boundary[(i+1)%n]], p[next]) < 0
	}
	var list []impl.Triangle
	var removed []int
	first := -1
	for i := range n {
		if isSeen(i) {
			list = append(list, tri(boundary[(i+1)%n], boundary[i], next))
			if isSeen(i - 1) {
				removed = append(removed, i)
			} else {
				first = i
			}
		}
	}
	longer := slices.Insert(slices.Clone(boundary), first+1, next)
	for _, i := range slices.Backward(removed) {
		if i > first {
			i++
		}
		longer = slices.Delete(longer, i, i+1)
	}
	return list, longer
}

// wantSwept returns the swept triangles of points in order.
func wantSwept(p []impl.Point) []impl.Triangle {
	n := lineStart(p)
	var boundary []int
	for i := range n {
		boundary = append(boundary, i)
	}
	for i := n - 2; i > 0; i-- {
		boundary = append(boundary, i)
	}
	var list, more []impl.Triangle
	for next := n; next < len(p); next++ {
		more, boundary = nextBoundary(p, boundary, next)
		list = append(list, more...)
	}
	return list
}

func TestP56SweptTrianglesDivideTheHull(t *testing.T) {
	for _, p := range sortedLists() {
		array := append(slices.Clone(p), xy(7, 7), xy(8, 8))
		before := slices.Clone(array)
		list := impl.SweepTriangles(array[:len(p)])
		if want := wantSwept(p); !slices.Equal(list, want) {
			t.Fatalf("SweepTriangles(%v) = %v, want %v", p, list, want)
		}
		area := 0
		for _, u := range list {
			if impl.Orient(cornersOf(p, u)) != 1 {
				t.Fatalf("SweepTriangles(%v) = %v: %v is not counterclockwise", p, list, u)
			}
			area += impl.Cross(cornersOf(p, u))
		}
		if area != impl.HullArea(p) {
			t.Fatalf("SweepTriangles(%v) = %v: the area is %d", p, list, area)
		}
		sameList(t, "the argument of SweepTriangles", array, before)
	}
}

func TestP56OrdinarySweeps(t *testing.T) {
	for name, c := range map[string]struct {
		p    []impl.Point
		want []impl.Triangle
	}{
		"nothing":                {nil, nil},
		"one point":              {[]impl.Point{xy(1, 1)}, nil},
		"two points":             {[]impl.Point{xy(1, 1), xy(2, 0)}, nil},
		"points on one line":     {[]impl.Point{xy(0, 0), xy(1, 1), xy(2, 2), xy(7, 7)}, nil},
		"upright line":           {[]impl.Point{xy(0, -2), xy(0, 0), xy(0, 5)}, nil},
		"left turn":              {[]impl.Point{xy(0, 0), xy(2, 0), xy(3, 3)}, tris(0, 1, 2)},
		"right turn":             {[]impl.Point{xy(0, 0), xy(2, 0), xy(3, -3)}, tris(1, 0, 2)},
		"line, then left":        {[]impl.Point{xy(0, 0), xy(1, 0), xy(2, 0), xy(3, 1)}, tris(1, 2, 3, 0, 1, 3)},
		"line, then right":       {[]impl.Point{xy(0, 0), xy(1, 0), xy(2, 0), xy(3, -1)}, tris(1, 0, 3, 2, 1, 3)},
		"upright line first":     {[]impl.Point{xy(0, 0), xy(0, 1), xy(0, 2), xy(1, 1)}, tris(1, 0, 3, 2, 1, 3)},
		"line, both sides":       {[]impl.Point{xy(0, 0), xy(1, 0), xy(2, 0), xy(3, 1), xy(3, 3), xy(4, -4)}, tris(1, 2, 3, 0, 1, 3, 0, 3, 4, 1, 0, 5, 2, 1, 5, 3, 2, 5, 4, 3, 5)},
		"line, right, then left": {[]impl.Point{xy(0, 0), xy(1, 0), xy(2, 0), xy(3, -1), xy(4, 4)}, tris(1, 0, 3, 2, 1, 3, 2, 3, 4, 1, 2, 4, 0, 1, 4)},
		"longer side":            {[]impl.Point{xy(0, 0), xy(1, 2), xy(2, 0), xy(4, 0)}, tris(1, 0, 2, 1, 2, 3)},
		"square":                 {[]impl.Point{xy(0, 0), xy(0, 2), xy(2, 0), xy(2, 2)}, tris(1, 0, 2, 1, 2, 3)},
		"rhombus":                {[]impl.Point{xy(0, 0), xy(4, -3), xy(4, 3), xy(8, 0)}, tris(0, 1, 2, 2, 1, 3)},
		"six points":             {[]impl.Point{xy(0, 0), xy(0, 1), xy(0, 2), xy(1, 0), xy(1, 1), xy(1, 2)}, tris(1, 0, 3, 2, 1, 3, 2, 3, 4, 2, 4, 5)},
	} {
		if got := impl.SweepTriangles(c.p); !slices.Equal(got, c.want) || !slices.Equal(wantSwept(c.p), c.want) {
			t.Errorf("%s: SweepTriangles(%v) = %v, want %v", name, c.p, got, c.want)
		}
	}
}

// onBoundary returns how many points are on the boundary of their hull.
func onBoundary(p []impl.Point) int {
	h, count := wantHull(p), 0
	for _, q := range p {
		for i := range h {
			if between(edge(h, i), q) {
				count++
				break
			}
		}
	}
	return count
}

func TestP57TheNumberOfTrianglesFollowsFromTheHull(t *testing.T) {
	count := 0
	for _, p := range sortedLists() {
		want := 0
		if !onOneLine(p) {
			want = 2*len(p) - onBoundary(p) - 2
			count++
		}
		if n := len(impl.SweepTriangles(p)); n != want {
			t.Fatalf("SweepTriangles(%v) has %d triangles, want %d", p, n, want)
		}
		if n := len(impl.Delaunay(p)); n != want {
			t.Fatalf("Delaunay(%v) has %d triangles, want %d", p, n, want)
		}
	}
	if count < 500 {
		t.Errorf("only %d lists", count)
	}
}

// emptyCircles reports whether triangles have three indices of points that are
// counterclockwise, and no point is inside of their circles.
func emptyCircles(p []impl.Point, list []impl.Triangle) bool {
	if !inRange(list, len(p)) || len(list) > 40 {
		return false
	}
	for _, u := range list {
		a, b, c := cornersOf(p, u)
		if crossOf(a, b, c) <= 0 {
			return false
		}
		for _, q := range p {
			if circlePlace(a, b, c, q) > 0 {
				return false
			}
		}
	}
	return true
}

// wantFlip returns triangles with the first side flipped that is to be flipped; nil if there is none.
func wantFlip(p []impl.Point, list []impl.Triangle) []impl.Triangle {
	for i := range list {
		for x := range 3 {
			for k := range list {
				for y := range 3 {
					t, u := indicesOf(list[i]), indicesOf(list[k])
					if t[x] != u[(y+1)%3] || t[(x+1)%3] != u[y] {
						continue
					}
					if circlePlace(p[t[0]], p[t[1]], p[t[2]], p[u[(y+2)%3]]) > 0 {
						return withFlip(list, i, k)
					}
				}
			}
		}
	}
	return nil
}

// wantDelaunay returns the Delaunay triangles of points in order, and how many sides are flipped.
func wantDelaunay(p []impl.Point) ([]impl.Triangle, int) {
	list, flips := wantSwept(p), 0
	for next := wantFlip(p, list); next != nil; next = wantFlip(p, list) {
		list = next
		flips++
	}
	return list, flips
}

func TestP58FlippedTrianglesAreDelaunay(t *testing.T) {
	all := 0
	for n, p := range sortedLists() {
		array := append(slices.Clone(p), xy(7, 7), xy(8, 8))
		before := slices.Clone(array)
		list := impl.Delaunay(array[:len(p)])
		if n%13 == 0 || len(p) < 8 { // the exact fractions take their time
			want, flips := wantDelaunay(p)
			if !slices.Equal(list, want) {
				t.Fatalf("Delaunay(%v) = %v, want %v", p, list, want)
			}
			all += flips
		}
		if !impl.IsDelaunay(array[:len(p)], list) || !emptyCircles(p, list) {
			t.Fatalf("Delaunay(%v) = %v: IsDelaunay fails", p, list)
		}
		swept := impl.SweepTriangles(p)
		if len(list) != len(swept) || areaOfTriangles(p, list) != areaOfTriangles(p, swept) {
			t.Fatalf("Delaunay(%v) = %v differs from %v", p, list, swept)
		}
		sameList(t, "the argument of Delaunay", array, before)
	}
	if all < 500 {
		t.Errorf("only %d flips", all)
	}
}

func TestP58OrdinaryFlips(t *testing.T) {
	for name, c := range map[string]struct {
		p    []impl.Point
		want []impl.Triangle
	}{
		"nothing":            {nil, nil},
		"points on one line": {[]impl.Point{xy(0, 0), xy(1, 1), xy(2, 2), xy(7, 7)}, nil},
		"no flip":            {[]impl.Point{xy(0, 0), xy(4, -3), xy(4, 3), xy(8, 0)}, tris(0, 1, 2, 2, 1, 3)},
		"one flip":           {[]impl.Point{xy(0, 0), xy(2, -5), xy(2, 5), xy(4, 0)}, tris(0, 1, 3, 0, 3, 2)},
		"on one circle":      {[]impl.Point{xy(0, 0), xy(2, -2), xy(2, 2), xy(4, 0)}, tris(0, 1, 2, 2, 1, 3)},
		"nearly a circle":    {[]impl.Point{xy(1, 0), xy(2, -2), xy(2, 2), xy(4, 0)}, tris(0, 1, 3, 0, 3, 2)},
		"square":             {[]impl.Point{xy(0, 0), xy(0, 2), xy(2, 0), xy(2, 2)}, tris(1, 0, 2, 1, 2, 3)},
		"two flips":          {[]impl.Point{xy(0, 0), xy(2, -9), xy(2, 9), xy(4, 0), xy(9, 1)}, tris(0, 1, 3, 0, 3, 2, 3, 1, 4, 2, 3, 4)},
	} {
		want, _ := wantDelaunay(c.p)
		if got := impl.Delaunay(c.p); !slices.Equal(got, c.want) || !slices.Equal(want, c.want) {
			t.Errorf("%s: Delaunay(%v) = %v, want %v", name, c.p, got, c.want)
		}
	}
}

func TestP59NearestNeighboursAreConnected(t *testing.T) {
	for _, p := range sortedLists() {
		if len(p) < 3 || onOneLine(p) {
			continue
		}
		nearest := wantClosest(p)[2]
		isSide := func(u impl.Triangle) bool {
			a, b, c := cornersOf(p, u)
			return squareOf(a, b) == nearest || squareOf(b, c) == nearest || squareOf(c, a) == nearest
		}
		if _, _, square := impl.ClosestPair(p); square != nearest || !slices.ContainsFunc(impl.Delaunay(p), isSide) {
			t.Fatalf("Delaunay(%v) = %v does not connect points with the squared distance %d", p, impl.Delaunay(p), nearest)
		}
	}
}

func TestP60FewerTrianglesAreDelaunayAsWell(t *testing.T) {
	for n, p := range sortedLists() {
		if n%3 > 0 {
			continue
		}
		list := impl.Delaunay(p)
		for k := range list {
			if !impl.IsDelaunay(p, list[:k]) {
				t.Fatalf("IsDelaunay(%v, %v) fails", p, list[:k])
			}
			for _, q := range p {
				a, b, c := cornersOf(p, list[k])
				if impl.InCircle(a, b, c, q) > 0 {
					t.Fatalf("%v is inside of a circle of %v", q, list)
				}
			}
		}
	}
}

// randomTriangles returns triangles of points, most of them counterclockwise.
func randomTriangles(r *rand.Rand, p []impl.Point) []impl.Triangle {
	var list []impl.Triangle
	for range r.IntN(4) {
		u := tri(r.IntN(len(p)), r.IntN(len(p)), r.IntN(len(p)))
		if crossOf(cornersOf(p, u)) < 0 && r.IntN(5) > 0 {
			u.A, u.B = u.B, u.A
		}
		list = append(list, u)
	}
	return list
}

func TestP60IsDelaunayOfAnyTriangles(t *testing.T) {
	r := fixedRandom()
	held, failed := 0, 0
	for range 20000 {
		p := inOrder(append(randomList(r, 6), randomPoint(r, 2)))
		list := randomTriangles(r, p)
		before, points := slices.Clone(list), slices.Clone(p)
		got := impl.IsDelaunay(p, list)
		if got != emptyCircles(p, list) {
			t.Fatalf("IsDelaunay(%v, %v) = %v", p, list, got)
		}
		if !slices.Equal(list, before) || !slices.Equal(p, points) {
			t.Fatalf("IsDelaunay changes %v, %v", points, before)
		}
		if got && len(list) > 0 {
			held++
		} else if !got {
			failed++
		}
	}
	if min(held, failed) < 500 {
		t.Errorf("only %d are accepted and %d are not", held, failed)
	}
}

func TestP60ChangedTrianglesAreNotAccepted(t *testing.T) {
	for n, p := range sortedLists() {
		list := impl.Delaunay(p)
		if n%29 > 0 || len(list) == 0 || len(list) > 15 { // the exact fractions take their time
			continue
		}
		changedTriangles(list, len(p), func(list []impl.Triangle) {
			if got := impl.IsDelaunay(p, list); got != emptyCircles(p, list) {
				t.Fatalf("IsDelaunay(%v, %v) = %v", p, list, got)
			}
		})
	}
}

func TestP60OneCircleIsEnough(t *testing.T) {
	// Only the circle of the last triangle, or of the first one, has a point inside.
	p := []impl.Point{xy(0, 0), xy(1, 5), xy(2, 0), xy(3, 1), xy(9, 1)}
	good, bad := tris(0, 2, 3), tris(1, 2, 4)
	if !impl.IsDelaunay(p, good) || impl.IsDelaunay(p, bad) {
		t.Errorf("IsDelaunay of one triangle")
	}
	for k := range 6 {
		list := slices.Insert(slices.Repeat(good, 5), k, bad[0])
		if impl.IsDelaunay(p, list) {
			t.Errorf("IsDelaunay(%v, %v) holds", p, list)
		}
	}
}

func TestP60NumberOfTriangles(t *testing.T) {
	p := []impl.Point{xy(0, 0), xy(2, 0), xy(3, 3)}
	for n := range 60 {
		list := slices.Repeat(tris(0, 1, 2), n)
		if got := impl.IsDelaunay(p, list); got != (n <= 2*impl.MaxPoints) {
			t.Errorf("IsDelaunay of %d triangles = %v", n, got)
		}
	}
	if impl.IsDelaunay(p, make([]impl.Triangle, 100000)) || impl.IsDelaunay(p, slices.Repeat(tris(0, 1, 2), 100000)) {
		t.Error("IsDelaunay of too many triangles")
	}
}

func TestP60InvalidTriangles(t *testing.T) {
	p := []impl.Point{xy(0, 0), xy(1, 0), xy(2, 0), xy(3, 3)}
	for _, u := range tris(0, 3, 1, 0, 0, 3, 0, 1, 1, 3, 1, 3, 0, 1, 2, 2, 1, 0, -1, 1, 3, 0, -1, 3, 0, 1, -1, 4, 1, 3, 0, 4, 3, 0, 1, 4,
		math.MinInt, 1, 3, 0, math.MaxInt, 3, 0, 1, math.MinInt, 0, 0, 0, 4, 4, 4) {
		for _, list := range [][]impl.Triangle{{u}, {tri(0, 1, 3), u}, {u, tri(1, 2, 3)}} {
			if impl.IsDelaunay(p, list) {
				t.Errorf("IsDelaunay(%v, %v) holds", p, list)
			}
		}
	}
	for _, u := range tris(0, 1, 3, 1, 3, 0, 3, 0, 1, 1, 2, 3) {
		if !impl.IsDelaunay(p, []impl.Triangle{u}) {
			t.Errorf("IsDelaunay(%v, %v) fails", p, u)
		}
	}
	// Without triangles, no condition fails, however few points there are.
	for _, p := range [][]impl.Point{nil, {xy(1, 1)}, {xy(0, 0), xy(1, 1), xy(2, 2)}, p} {
		if !impl.IsDelaunay(p, nil) || impl.IsDelaunay(p, tris(0, 0, 0)) {
			t.Errorf("IsDelaunay of no triangle, or of one, for %v", p)
		}
	}
}

func TestP56P58P60InvalidLists(t *testing.T) {
	for _, p := range notSorted() {
		if swept, list := impl.SweepTriangles(p), impl.Delaunay(p); swept != nil || list != nil {
			t.Errorf("SweepTriangles(%v) = %v, Delaunay = %v", p, swept, list)
		}
		for _, list := range [][]impl.Triangle{nil, {}, tris(0, 1, 2), tris(0, 2, 1), tris(1, 2, 3)} {
			if impl.IsDelaunay(p, list) {
				t.Errorf("IsDelaunay(%v, %v) holds", p, list)
			}
		}
	}
	most := manyPoints(impl.MaxPoints)
	if len(impl.SweepTriangles(most)) != 18 || len(impl.Delaunay(most)) != 18 || !impl.IsDelaunay(most, nil) {
		t.Error("MaxPoints points are rejected")
	}
}

func TestP139ThreePointsHaveOneTriangle(t *testing.T) {
	points := append(grid(4, 3, xy(-1, -1)), somePlaces()...)
	triples(inOrder(points), func(a, b, c impl.Point) {
		p := []impl.Point{a, b, c}
		if len(inOrder(p)) < 3 || !slices.Equal(inOrder(p), p) {
			return
		}
		var want []impl.Triangle
		switch n := crossOf(a, b, c); {
		case n > 0:
			want = tris(0, 1, 2)
		case n < 0:
			want = tris(1, 0, 2)
		}
		if swept, list := impl.SweepTriangles(p), impl.Delaunay(p); !slices.Equal(swept, want) || !slices.Equal(list, want) {
			t.Fatalf("SweepTriangles(%v) = %v, Delaunay = %v, want %v", p, swept, list, want)
		}
	})
}

func TestP56P58ChangedResultsDoNotChangeTheNextOnes(t *testing.T) {
	p := grid(5, 4, xy(0, 0))
	want, _ := wantDelaunay(p)
	for _, list := range [][]impl.Triangle{impl.SweepTriangles(p), impl.Delaunay(p)} {
		list = list[:cap(list)]
		for i := range list {
			list[i] = tri(-7, -7, -7)
		}
	}
	if !slices.Equal(impl.SweepTriangles(p), wantSwept(p)) || !slices.Equal(impl.Delaunay(p), want) {
		t.Error("a changed result changes the next one")
	}
}

// TestP60TheSameInAnyOrderOfWorkers looks for results that depend on the order in which circles are tested.
func TestP60TheSameInAnyOrderOfWorkers(t *testing.T) {
	p := inOrder(star(10, 1000, 300))
	list := impl.Delaunay(p)
	swept := impl.SweepTriangles(p)
	for range 300 {
		if !impl.IsDelaunay(p, list) || impl.IsDelaunay(p, swept) {
			t.Fatal("IsDelaunay changes")
		}
	}
}
