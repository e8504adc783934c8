package tests

import (
	"math/big"
	"math/rand/v2"
	"slices"
	"strconv"
	"testing"

	"loop.example/planargeometry/impl"
)

// sidesDiffer reports whether two points are on different sides of the line through a segment.
func sidesDiffer(s impl.Segment, p impl.Point, q impl.Point) bool {
	a, b := crossOf(s.A, s.B, p), crossOf(s.A, s.B, q)
	return a < 0 && b > 0 || a > 0 && b < 0
}

// meet reports whether two segments have a common point.
func meet(s impl.Segment, t impl.Segment) bool {
	if between(s, t.A) || between(s, t.B) || between(t, s.A) || between(t, s.B) {
		return true
	}
	return sidesDiffer(s, t.A, t.B) && sidesDiffer(t, s.A, s.B)
}

// edge returns the edge of a polygon that begins at a vertex.
func edge(p []impl.Point, i int) impl.Segment {
	return seg(p[i%len(p)], p[(i+1)%len(p)])
}

// simple reports whether a list of valid points is a simple polygon.
func simple(p []impl.Point) bool {
	n := len(p)
	if n < 3 || n > impl.MaxVertices {
		return false
	}
	for i := range p {
		s, next := edge(p, i), edge(p, i+1)
		if slices.Contains(p[:i], p[i]) || between(s, next.B) || between(next, s.A) {
			return false
		}
		for k := i + 2; k < i+n-1; k++ {
			if meet(s, edge(p, k)) {
				return false
			}
		}
	}
	return true
}

// randomPolygon returns a simple polygon with up to most vertices with coordinates in -size..size.
func randomPolygon(r *rand.Rand, most int, size int) []impl.Point {
	p := make([]impl.Point, 3)
	for !simple(p) {
		p[r.IntN(3)] = randomPoint(r, size)
	}
	for range 4 * most {
		longer := slices.Insert(slices.Clone(p), r.IntN(len(p)+1), randomPoint(r, size))
		if len(longer) <= most && simple(longer) {
			p = longer
		}
	}
	return p
}

// comb returns a polygon with four teeth and vertices on straight lines.
func comb() []impl.Point {
	return []impl.Point{
		xy(0, 0), xy(2, 0), xy(4, 0), xy(6, 0), xy(7, 0), xy(7, 5), xy(6, 5), xy(6, 1), xy(5, 1), xy(5, 5), xy(4, 5),
		xy(4, 1), xy(3, 1), xy(3, 5), xy(2, 5), xy(2, 1), xy(1, 1), xy(1, 5), xy(0, 5), xy(0, 3),
	}
}

// spiral returns a polygon that winds around its inner end.
func spiral() []impl.Point {
	return []impl.Point{
		xy(0, 0), xy(7, 0), xy(7, 7), xy(0, 7), xy(0, 2), xy(5, 2), xy(5, 5), xy(2, 5),
		xy(2, 4), xy(4, 4), xy(4, 3), xy(1, 3), xy(1, 6), xy(6, 6), xy(6, 1), xy(0, 1),
	}
}

// smallPolygons returns simple polygons in both directions with small coordinates.
func smallPolygons() [][]impl.Point {
	list := [][]impl.Point{
		{xy(0, 0), xy(1, 0), xy(0, 1)}, {xy(0, 0), xy(0, 4), xy(5, 1)}, {xy(0, 0), xy(4, 0), xy(4, 4), xy(2, 1), xy(0, 4)},
		{xy(0, 0), xy(2, 0), xy(4, 0), xy(4, 2), xy(4, 4), xy(2, 4), xy(0, 4), xy(0, 2)},
		{xy(0, 0), xy(1, 0), xy(2, 0), xy(0, 1)}, {xy(0, 2), xy(2, 2), xy(2, 0), xy(4, 2), xy(2, 4), xy(2, 3), xy(1, 3), xy(0, 3)},
		comb(), reversed(comb()), spiral(), {xy(-3, 0), xy(0, -1), xy(3, 0), xy(0, 1)},
	}
	r := fixedRandom()
	for range 120 {
		list = append(list, randomPolygon(r, 3+r.IntN(5), 3), randomPolygon(r, impl.MaxVertices, 5))
	}
	return list
}

// largePolygons returns simple polygons with large coordinates.
func largePolygons() [][]impl.Point {
	list := [][]impl.Point{
		{xy(-1000, -1000), xy(1000, -1000), xy(1000, 1000), xy(-1000, 1000)},
		{xy(-1000, -1000), xy(-1000, 1000), xy(1000, -1000)}, {xy(-1000, -1000), xy(1000, 1000), xy(999, 1000)},
		manyPoints(impl.MaxVertices), reversed(manyPoints(impl.MaxVertices)),
	}
	r := fixedRandom()
	for range 60 {
		list = append(list, randomPolygon(r, 3+r.IntN(5), impl.MaxCoord), randomPolygon(r, impl.MaxVertices, impl.MaxCoord))
	}
	return list
}

// allPolygons returns all of these polygons.
func allPolygons() [][]impl.Point {
	return append(smallPolygons(), largePolygons()...)
}

// notSimple returns lists that are no simple polygons.
func notSimple() map[string][]impl.Point {
	list := map[string][]impl.Point{
		"nothing":              nil,
		"one point":            {xy(1, 1)},
		"two points":           {xy(1, 1), xy(2, 2)},
		"crossing edges":       {xy(0, 0), xy(2, 2), xy(2, 0), xy(0, 2)},
		"a flat triangle":      {xy(0, 0), xy(4, 0), xy(2, 0)},
		"another one":          {xy(0, 0), xy(2, 2), xy(4, 4)},
		"a flat quadrangle":    {xy(0, 0), xy(1, 0), xy(3, 0), xy(2, 0)},
		"equal points":         {xy(1, 1), xy(1, 1), xy(1, 1)},
		"two equal neighbours": {xy(0, 0), xy(4, 0), xy(4, 0), xy(0, 4)},
		"equal ends":           {xy(0, 0), xy(4, 0), xy(0, 4), xy(0, 0)},
		"a vertex twice":       {xy(0, 0), xy(1, -1), xy(1, 1), xy(0, 0), xy(-1, 1), xy(-1, -1)},
		"there and back":       {xy(0, 0), xy(4, 0), xy(4, 4), xy(4, 0)},
		"a spike":              {xy(0, 0), xy(4, 0), xy(4, 4), xy(4, 6), xy(4, 2), xy(0, 4)},
		"a vertex on an edge":  {xy(0, 0), xy(4, 0), xy(4, 4), xy(2, 0), xy(0, 4)},
		"an edge on an edge":   {xy(0, 0), xy(6, 0), xy(6, 4), xy(4, 0), xy(2, 0), xy(0, 4)},
		"a pentagram":          {xy(0, 3), xy(-2, -3), xy(3, 1), xy(-3, 1), xy(2, -3)},
		"too many vertices":    manyPoints(impl.MaxVertices + 1),
	}
	for i, bad := range badPoints() {
		list["the invalid point "+strconv.Itoa(i)] = []impl.Point{xy(0, 0), xy(5, 1), bad}
		list["the invalid first point "+strconv.Itoa(i)] = []impl.Point{bad, xy(0, 0), xy(5, 1), xy(7, 8)}
	}
	return list
}

// sequences calls f for all lists of n points of a list, the same point more than once included.
func sequences(points []impl.Point, n int, f func(p []impl.Point)) {
	var extend func(p []impl.Point)
	extend = func(p []impl.Point) {
		if len(p) == n {
			f(slices.Clone(p))
			return
		}
		for _, q := range points {
			extend(append(p, q))
		}
	}
	extend(nil)
}

func TestP24IsSimpleOfAllSmallPolygons(t *testing.T) {
	count := 0
	for n := range 6 {
		points := grid(3, 3, xy(-1, -1))
		if n == 5 {
			points = []impl.Point{xy(0, 0), xy(2, 0), xy(1, 1), xy(0, 2), xy(2, 2), xy(1, 0)}
		}
		sequences(points, n, func(p []impl.Point) {
			got := impl.IsSimple(p)
			if got != simple(p) {
				t.Fatalf("IsSimple(%v) = %v", p, got)
			}
			if got {
				count++
			}
		})
	}
	if count < 1000 {
		t.Errorf("only %d simple polygons", count)
	}
}

func TestP24SimplePolygonsStaySimple(t *testing.T) {
	for _, p := range allPolygons() {
		keepsArgument(t, "IsSimple", p, func(p []impl.Point) []impl.Point { impl.IsSimple(p); return nil })
		for i := range p {
			if q := rotated(p, i); !impl.IsSimple(q) || !impl.IsSimple(reversed(q)) {
				t.Fatalf("IsSimple(%v) fails", q)
			}
		}
	}
	for _, p := range smallPolygons() {
		for _, v := range []impl.Point{xy(900, -900), xy(-990, 5), xy(0, 990)} {
			if q := moved(p, v); !impl.IsSimple(q) {
				t.Fatalf("IsSimple(%v) fails", q)
			}
		}
	}
}

func TestP24OthersAreNotSimple(t *testing.T) {
	for name, p := range notSimple() {
		for i := range p {
			if q := rotated(p, i); impl.IsSimple(q) || impl.IsSimple(reversed(q)) {
				t.Errorf("IsSimple holds for %s: %v", name, q)
			}
		}
		if impl.IsSimple(p) {
			t.Errorf("IsSimple holds for %s: %v", name, p)
		}
	}
}

func TestP24NumberOfVertices(t *testing.T) {
	for n := range impl.MaxVertices + 3 {
		if got := impl.IsSimple(manyPoints(n)); got != (n >= 3 && n <= impl.MaxVertices) {
			t.Errorf("IsSimple of %d vertices = %v", n, got)
		}
	}
	if !impl.IsSimple(comb()) || len(comb()) != impl.MaxVertices {
		t.Error("IsSimple of a comb fails")
	}
}

// areaOf returns twice the area of a polygon as the sum of the trapezoids below its edges.
func areaOf(p []impl.Point) int {
	area := 0
	for i := range p {
		e := edge(p, i)
		area += (e.A.X - e.B.X) * (e.A.Y + e.B.Y)
	}
	return area
}

func TestP25AreasChangeTheirSignWithTheDirection(t *testing.T) {
	for _, p := range allPolygons() {
		area := impl.DoubleArea(p)
		if area != areaOf(p) || area == 0 {
			t.Fatalf("DoubleArea(%v) = %d, want %d", p, area, areaOf(p))
		}
		for i := range p {
			q := rotated(p, i)
			if impl.DoubleArea(q) != area || impl.DoubleArea(reversed(q)) != -area {
				t.Fatalf("DoubleArea(%v) = %d, want %d", q, impl.DoubleArea(q), area)
			}
		}
	}
}

func TestP25OrdinaryAreas(t *testing.T) {
	for _, c := range []struct {
		p    []impl.Point
		want int
	}{
		{[]impl.Point{xy(0, 0), xy(3, 0), xy(0, 2)}, 6}, {[]impl.Point{xy(0, 0), xy(0, 2), xy(3, 0)}, -6},
		{[]impl.Point{xy(0, 0), xy(4, 0), xy(4, 4), xy(2, 1), xy(0, 4)}, 20}, {comb(), 46}, {reversed(comb()), -46},
		{[]impl.Point{xy(-1000, -1000), xy(1000, -1000), xy(1000, 1000), xy(-1000, 1000)}, 8000000},
	} {
		if n := impl.DoubleArea(c.p); n != c.want {
			t.Errorf("DoubleArea(%v) = %d, want %d", c.p, n, c.want)
		}
	}
}

func TestP25P27P28P29PolygonsThatAreNotSimple(t *testing.T) {
	for name, p := range notSimple() {
		if n := impl.DoubleArea(p); n != 0 {
			t.Errorf("DoubleArea of %s = %d", name, n)
		}
		if n := impl.BoundaryCount(p); n != -1 {
			t.Errorf("BoundaryCount of %s = %d", name, n)
		}
		if n := impl.InteriorCount(p); n != -1 {
			t.Errorf("InteriorCount of %s = %d", name, n)
		}
		if c := impl.Canonical(p); c != nil {
			t.Errorf("Canonical of %s = %v", name, c)
		}
	}
}

func TestP131TheCrossProductIsAnArea(t *testing.T) {
	triples(somePoints(), func(a, b, c impl.Point) {
		n := impl.DoubleArea([]impl.Point{a, b, c})
		if n != crossOf(a, b, c) || n != impl.Cross(a, b, c) {
			t.Fatalf("DoubleArea(%v, %v, %v) = %d, but Cross = %d", a, b, c, n, impl.Cross(a, b, c))
		}
	})
}

// placeIn returns the result that Locate should have. The ray that it follows
// is so steep that no point with integer coordinates is on it.
func placeIn(p []impl.Point, q impl.Point) int {
	ray := seg(q, shift(q, xy(100003, 1)))
	place := -1
	for i := range p {
		e := edge(p, i)
		if between(e, q) {
			return 0
		}
		if sidesDiffer(ray, e.A, e.B) && sidesDiffer(e, ray.A, ray.B) {
			place = -place
		}
	}
	return place
}

// around returns the points of the rectangle around a polygon, and those next to it.
func around(p []impl.Point) []impl.Point {
	low, high := p[0], p[0]
	for _, q := range p {
		low, high = xy(min(low.X, q.X), min(low.Y, q.Y)), xy(max(high.X, q.X), max(high.Y, q.Y))
	}
	return grid(high.X-low.X+3, high.Y-low.Y+3, shift(low, xy(-1, -1)))
}

func TestP26LocateIsExact(t *testing.T) {
	count := map[int]int{}
	for _, p := range smallPolygons() {
		keepsArgument(t, "Locate", p, func(p []impl.Point) []impl.Point { impl.Locate(p, xy(0, 0)); return nil })
		for _, q := range around(p) {
			want := placeIn(p, q)
			if n := impl.Locate(p, q); n != want || n != impl.Locate(reversed(p), q) {
				t.Fatalf("Locate(%v, %v) = %d, want %d", p, q, n, want)
			}
			count[want]++
		}
	}
	if len(count) != 3 || min(count[-1], count[0], count[1]) < 500 {
		t.Errorf("only %v points", count)
	}
}

func TestP26LocateInLargePolygons(t *testing.T) {
	r := fixedRandom()
	for _, p := range largePolygons() {
		list := somePoints()
		for _, v := range p {
			list = append(list, xy(v.X, randomPoint(r, impl.MaxCoord).Y), xy(randomPoint(r, impl.MaxCoord).X, v.Y))
		}
		for _, q := range list {
			if n := impl.Locate(p, q); n != placeIn(p, q) {
				t.Fatalf("Locate(%v, %v) = %d", p, q, n)
			}
		}
	}
}

// stepsOf returns the number of parts into which points with integer coordinates divide a segment.
func stepsOf(s impl.Segment) int {
	dx, dy := int64(s.B.X-s.A.X), int64(s.B.Y-s.A.Y)
	n := new(big.Int).GCD(nil, nil, new(big.Int).Abs(big.NewInt(dx)), new(big.Int).Abs(big.NewInt(dy)))
	return int(n.Int64())
}

func TestP26VerticesAndEdgesAreTheBoundary(t *testing.T) {
	for _, p := range allPolygons() {
		for i := range p {
			s := edge(p, i)
			n := stepsOf(s)
			for k := range n {
				q := shift(s.A, xy((s.B.X-s.A.X)/n*k, (s.B.Y-s.A.Y)/n*k))
				if impl.Locate(p, q) != 0 {
					t.Fatalf("Locate(%v, %v) = %d", p, q, impl.Locate(p, q))
				}
			}
		}
	}
}

func TestP26PointsOutsideOfAllCoordinatesAreOutside(t *testing.T) {
	for _, p := range smallPolygons() {
		for _, v := range p {
			for _, q := range []impl.Point{xy(v.X, 9), xy(v.X, -9), xy(9, v.Y), xy(-9, v.Y), xy(1000, v.Y), xy(-1000, v.Y), xy(v.X, -1000), xy(1000, 1000)} {
				if n := impl.Locate(p, q); n != -1 {
					t.Fatalf("Locate(%v, %v) = %d", p, q, n)
				}
			}
		}
	}
}

func TestP26InvalidArguments(t *testing.T) {
	for name, p := range notSimple() {
		if n := impl.Locate(p, xy(1, 1)); n != 2 {
			t.Errorf("Locate in %s = %d", name, n)
		}
	}
	for _, bad := range badPoints() {
		for _, p := range [][]impl.Point{comb(), largePolygons()[0], nil} {
			if n := impl.Locate(p, bad); n != 2 {
				t.Errorf("Locate(%v, %v) = %d", p, bad, n)
			}
		}
	}
}

func TestP27CountsAreThoseOfLocate(t *testing.T) {
	for _, p := range smallPolygons() {
		boundary, interior := 0, 0
		for _, q := range around(p) {
			switch placeIn(p, q) {
			case 0:
				boundary++
			case 1:
				interior++
			}
		}
		if n := impl.BoundaryCount(p); n != boundary {
			t.Fatalf("BoundaryCount(%v) = %d, want %d", p, n, boundary)
		}
		if n := impl.InteriorCount(p); n != interior {
			t.Fatalf("InteriorCount(%v) = %d, want %d", p, n, interior)
		}
	}
}

func TestP27TheTheoremOfPickHolds(t *testing.T) {
	for _, p := range allPolygons() {
		area, interior, boundary := areaOf(p), impl.InteriorCount(p), impl.BoundaryCount(p)
		if max(area, -area) != 2*interior+boundary-2 || interior < 0 || interior != impl.InteriorCount(reversed(p)) {
			t.Fatalf("%v has %d interior points, %d on the boundary, and the area %d/2", p, interior, boundary, area)
		}
	}
	square := largePolygons()[0]
	if b, i := impl.BoundaryCount(square), impl.InteriorCount(square); b != 8000 || i != 1999*1999 {
		t.Errorf("the largest square has %d points on the boundary and %d inside", b, i)
	}
}

func TestP28BoundariesHaveAllVertices(t *testing.T) {
	for _, p := range allPolygons() {
		n, want := impl.BoundaryCount(p), 0
		for i := range p {
			want += stepsOf(edge(p, i))
		}
		if n != want || n < len(p) {
			t.Fatalf("BoundaryCount(%v) = %d, want %d", p, n, want)
		}
		for i := range p {
			q := rotated(p, i)
			if impl.BoundaryCount(q) != n || impl.BoundaryCount(reversed(q)) != n {
				t.Fatalf("BoundaryCount(%v) = %d, want %d", q, impl.BoundaryCount(q), n)
			}
		}
	}
}

func TestP29EqualPolygonsHaveTheSameCanonicalForm(t *testing.T) {
	for _, p := range allPolygons() {
		want := p
		if areaOf(p) < 0 {
			want = reversed(p)
		}
		want = rotated(want, smallest(want))
		for i := range p {
			sameList(t, "Canonical", impl.Canonical(rotated(p, i)), want)
			sameList(t, "Canonical of the opposite direction", impl.Canonical(reversed(rotated(p, i))), want)
		}
		keepsArgument(t, "Canonical", p, impl.Canonical)
		keepsArgument(t, "Canonical", want, impl.Canonical)
	}
}

func TestP29CanonicalKeepsVerticesOnStraightLines(t *testing.T) {
	p := []impl.Point{xy(2, 0), xy(1, 0), xy(0, 0), xy(0, 1), xy(0, 2)}
	sameList(t, "Canonical", impl.Canonical(p), []impl.Point{xy(0, 0), xy(1, 0), xy(2, 0), xy(0, 2), xy(0, 1)})
}
