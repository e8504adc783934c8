package tests

import (
	"math"
	"math/rand/v2"
	"slices"
	"testing"

	"loop.example/planargeometry/impl"
)

// tri returns a triangle.
func tri(a int, b int, c int) impl.Triangle {
	return impl.Triangle{A: a, B: b, C: c}
}

// tris returns the triangles with triples of indices.
func tris(n ...int) []impl.Triangle {
	var list []impl.Triangle
	for i := 0; i+2 < len(n); i += 3 {
		list = append(list, tri(n[i], n[i+1], n[i+2]))
	}
	return list
}

// indicesOf returns the indices of a triangle.
func indicesOf(t impl.Triangle) [3]int {
	return [3]int{t.A, t.B, t.C}
}

// cornersOf returns the points of a triangle.
func cornersOf(p []impl.Point, t impl.Triangle) (impl.Point, impl.Point, impl.Point) {
	return p[t.A], p[t.B], p[t.C]
}

// isFlat reports whether three consecutive vertices are on one line.
func isFlat(p []impl.Point) bool {
	n := len(p)
	for i := range p {
		if crossOf(p[i], p[(i+1)%n], p[(i+2)%n]) == 0 {
			return true
		}
	}
	return false
}

// star returns a polygon with n tips on a large circle and n vertices on a small one.
func star(n int, large float64, small float64) []impl.Point {
	var p []impl.Point
	for i := range 2 * n {
		size, angle := large, math.Pi*float64(i)/float64(n)
		if i%2 == 1 {
			size = small
		}
		p = append(p, xy(int(math.Round(size*math.Cos(angle))), int(math.Round(size*math.Sin(angle)))))
	}
	return p
}

// sharpComb returns a comb without vertices on straight lines.
func sharpComb() []impl.Point {
	return []impl.Point{
		xy(0, 0), xy(14, -1), xy(14, 6), xy(12, 1), xy(11, 7), xy(10, 1), xy(9, 7), xy(8, 2),
		xy(7, 7), xy(6, 1), xy(5, 7), xy(4, 1), xy(3, 7), xy(2, 1), xy(1, 7),
	}
}

// cutPolygons returns polygons that can be triangulated, in both directions.
func cutPolygons() [][]impl.Point {
	list := append(allPolygons(), star(10, 1000, 300), star(10, 1000, 950), star(5, 100, 20), sharpComb())
	r := fixedRandom()
	for range 300 {
		list = append(list, randomPolygon(r, 3+r.IntN(6), 4), randomPolygon(r, 12, 20), randomPolygon(r, impl.MaxVertices, 60))
	}
	list = slices.DeleteFunc(list, isFlat)
	for _, p := range slices.Clone(list) {
		k := r.IntN(len(p))
		list = append(list, reversed(p), rotated(p, k), rotated(reversed(p), k))
	}
	return list
}

// flatPolygons returns simple polygons with a vertex on a straight line, at each place and in both directions.
func flatPolygons() [][]impl.Point {
	var list [][]impl.Point
	for _, p := range [][]impl.Point{
		{xy(0, 0), xy(2, 0), xy(4, 0), xy(0, 3)}, {xy(0, 0), xy(4, 0), xy(4, 4), xy(3, 4), xy(0, 4)},
		{xy(0, 0), xy(4, 0), xy(4, 4), xy(3, 3), xy(2, 2), xy(0, 4)}, {xy(-1000, -1000), xy(1000, 998), xy(1000, 1000), xy(0, 0)}, comb(),
	} {
		for i := range p {
			list = append(list, rotated(p, i), reversed(rotated(p, i)))
		}
	}
	return list
}

// counterclockwiseOrder returns the indices of the vertices counterclockwise, beginning with 0.
func counterclockwiseOrder(p []impl.Point) []int {
	order := []int{0}
	for i := 1; i < len(p); i++ {
		order = append(order, i)
	}
	if areaOf(p) < 0 {
		slices.Reverse(order[1:])
	}
	return order
}

// earAt reports whether the vertex at a place of a counterclockwise cycle of vertices is an ear.
func earAt(p []impl.Point, cycle []int, i int) bool {
	n := len(cycle)
	a, v, c := cycle[(i+n-1)%n], cycle[i], cycle[(i+1)%n]
	if crossOf(p[a], p[v], p[c]) <= 0 {
		return false
	}
	for _, w := range cycle {
		if w != a && w != v && w != c && hasPoint(p[a], p[v], p[c], p[w]) {
			return false
		}
	}
	return true
}

// wantEars returns the ears of a polygon that can be triangulated.
func wantEars(p []impl.Point) []int {
	var ears []int
	cycle := counterclockwiseOrder(p)
	for i, v := range cycle {
		if earAt(p, cycle, i) {
			ears = append(ears, v)
		}
	}
	slices.Sort(ears)
	return ears
}

// wantTriangles returns the triangles of a polygon that can be triangulated.
func wantTriangles(p []impl.Point) []impl.Triangle {
	var list []impl.Triangle
	cycle := counterclockwiseOrder(p)
	for len(cycle) > 3 {
		i, n := 0, len(cycle)
		for !earAt(p, cycle, i) {
			i++
		}
		list = append(list, tri(cycle[(i+n-1)%n], cycle[i], cycle[(i+1)%n]))
		cycle = slices.Delete(cycle, i, i+1)
	}
	return append(list, tri(cycle[0], cycle[1], cycle[2]))
}

// inRange reports whether all indices of triangles are those of n points.
func inRange(list []impl.Triangle, n int) bool {
	for _, t := range list {
		if min(t.A, t.B, t.C) < 0 || max(t.A, t.B, t.C) >= n {
			return false
		}
	}
	return true
}

// areaOfTriangles returns twice the area of all triangles; 0 if one is not counterclockwise.
func areaOfTriangles(p []impl.Point, list []impl.Triangle) int {
	all := 0
	for _, t := range list {
		n := crossOf(cornersOf(p, t))
		if n <= 0 {
			return 0
		}
		all += n
	}
	return all
}

// divide reports whether triangles divide a polygon that can be triangulated.
func divide(p []impl.Point, list []impl.Triangle) bool {
	if len(list) != len(p)-2 || !inRange(list, len(p)) || areaOfTriangles(p, list) != max(areaOf(p), -areaOf(p)) {
		return false
	}
	sides := map[[2]int]int{}
	for _, t := range list {
		for _, side := range [][2]int{{t.A, t.B}, {t.B, t.C}, {t.C, t.A}} {
			sides[side]++
		}
	}
	// Of the sides without an opposite one, the edges are left.
	cycle := counterclockwiseOrder(p)
	for i, v := range cycle {
		w := cycle[(i+1)%len(cycle)]
		if sides[[2]int{v, w}] != 1 || sides[[2]int{w, v}] != 0 {
			return false
		}
		delete(sides, [2]int{v, w})
	}
	for side, n := range sides {
		if n > 1 || sides[[2]int{side[1], side[0]}] != n {
			return false
		}
	}
	return true
}

func TestP51EveryPolygonHasTwoEars(t *testing.T) {
	for _, p := range cutPolygons() {
		before := slices.Clone(p)
		ears := impl.EarsOf(p)
		if want := wantEars(p); !slices.Equal(ears, want) {
			t.Fatalf("EarsOf(%v) = %v, want %v", p, ears, want)
		}
		if len(ears) < 2 || len(p) == 3 && !slices.Equal(ears, []int{0, 1, 2}) {
			t.Fatalf("EarsOf(%v) = %v", p, ears)
		}
		sameList(t, "the argument of EarsOf", p, before)
	}
}

func TestP51EarsBelongToVertices(t *testing.T) {
	for _, p := range cutPolygons() {
		ears, n := impl.EarsOf(p), len(p)
		back := impl.EarsOf(reversed(p))
		turned := impl.EarsOf(rotated(p, 1))
		for i := range p {
			if slices.Contains(ears, i) != slices.Contains(back, n-1-i) || slices.Contains(ears, i) != slices.Contains(turned, (i+n-1)%n) {
				t.Fatalf("EarsOf(%v) = %v, reversed %v, rotated %v", p, ears, back, turned)
			}
		}
	}
}

func TestP51OrdinaryEars(t *testing.T) {
	for name, c := range map[string]struct {
		p    []impl.Point
		want []int
	}{
		"triangle":               {[]impl.Point{xy(0, 0), xy(4, 0), xy(0, 4)}, []int{0, 1, 2}},
		"clockwise triangle":     {[]impl.Point{xy(0, 0), xy(0, 4), xy(4, 0)}, []int{0, 1, 2}},
		"square":                 {[]impl.Point{xy(0, 0), xy(4, 0), xy(4, 4), xy(0, 4)}, []int{0, 1, 2, 3}},
		"clockwise square":       {[]impl.Point{xy(0, 4), xy(4, 4), xy(4, 0), xy(0, 0)}, []int{0, 1, 2, 3}},
		"a dent":                 {[]impl.Point{xy(0, 0), xy(4, 0), xy(4, 4), xy(2, 1), xy(0, 4)}, []int{2, 4}},
		"a clockwise dent":       {[]impl.Point{xy(0, 4), xy(2, 1), xy(4, 4), xy(4, 0), xy(0, 0)}, []int{0, 2}},
		"an arrow":               {[]impl.Point{xy(0, 0), xy(4, 4), xy(0, 8), xy(2, 4)}, []int{0, 2}},
		"a vertex on a side":     {[]impl.Point{xy(0, 0), xy(6, 0), xy(6, 6), xy(3, 3), xy(2, 5)}, []int{2, 4}},
		"a vertex on a line":     {[]impl.Point{xy(0, 0), xy(6, 0), xy(6, 6), xy(3, 3), xy(0, 6)}, []int{2, 4}},
		"a vertex beside a side": {[]impl.Point{xy(0, 0), xy(6, 0), xy(6, 6), xy(3, 4), xy(0, 6)}, []int{0, 1, 2, 4}},
		"a far one in it":        {[]impl.Point{xy(0, 0), xy(9, 0), xy(0, 9), xy(-1, 12), xy(-5, 12), xy(-5, 3), xy(2, 2), xy(-5, 1)}, []int{0, 3, 4, 5, 7}},
	} {
		if got := impl.EarsOf(c.p); !slices.Equal(got, c.want) || !slices.Equal(wantEars(c.p), c.want) {
			t.Errorf("%s: EarsOf(%v) = %v, want %v", name, c.p, got, c.want)
		}
	}
}

func TestP52TriangulationsDividePolygons(t *testing.T) {
	for _, p := range cutPolygons() {
		array := append(slices.Clone(p), xy(7, 7), xy(8, 8))
		before := slices.Clone(array)
		list := impl.Triangulate(array[:len(p)])
		if want := wantTriangles(p); !slices.Equal(list, want) {
			t.Fatalf("Triangulate(%v) = %v, want %v", p, list, want)
		}
		if !impl.CheckTriangulation(array[:len(p)], list) || !divide(p, list) {
			t.Fatalf("CheckTriangulation(%v, %v) fails", p, list)
		}
		if area := impl.DoubleArea(p); areaOfTriangles(p, list) != max(area, -area) {
			t.Fatalf("the areas of Triangulate(%v) = %v do not add up to %d", p, list, area)
		}
		sameList(t, "the argument of Triangulate", array, before)
	}
}

func TestP52OrdinaryTriangulations(t *testing.T) {
	for name, c := range map[string]struct {
		p    []impl.Point
		want []impl.Triangle
	}{
		"triangle":           {[]impl.Point{xy(0, 0), xy(4, 0), xy(0, 4)}, tris(0, 1, 2)},
		"clockwise triangle": {[]impl.Point{xy(0, 0), xy(0, 4), xy(4, 0)}, tris(0, 2, 1)},
		"square":             {[]impl.Point{xy(0, 0), xy(4, 0), xy(4, 4), xy(0, 4)}, tris(3, 0, 1, 1, 2, 3)},
		"clockwise square":   {[]impl.Point{xy(0, 4), xy(4, 4), xy(4, 0), xy(0, 0)}, tris(1, 0, 3, 3, 2, 1)},
		"a dent":             {[]impl.Point{xy(0, 0), xy(4, 0), xy(4, 4), xy(2, 1), xy(0, 4)}, tris(1, 2, 3, 0, 1, 3, 0, 3, 4)},
		"a clockwise dent":   {[]impl.Point{xy(0, 4), xy(2, 1), xy(4, 4), xy(4, 0), xy(0, 0)}, tris(1, 0, 4, 1, 4, 3, 3, 2, 1)},
		"a hexagon":          {[]impl.Point{xy(2, 0), xy(4, 1), xy(4, 3), xy(2, 4), xy(0, 3), xy(0, 1)}, tris(5, 0, 1, 5, 1, 2, 5, 2, 3, 3, 4, 5)},
		"on one line later":  {[]impl.Point{xy(2, -2), xy(4, 0), xy(6, 0), xy(3, 5), xy(0, 0)}, tris(4, 0, 1, 1, 2, 3, 1, 3, 4)},
	} {
		if got := impl.Triangulate(c.p); !slices.Equal(got, c.want) || !slices.Equal(wantTriangles(c.p), c.want) {
			t.Errorf("%s: Triangulate(%v) = %v, want %v", name, c.p, got, c.want)
		}
		if !impl.CheckTriangulation(c.p, c.want) {
			t.Errorf("%s: CheckTriangulation(%v, %v) fails", name, c.p, c.want)
		}
	}
}

// turnedTriangles returns triangles in another order, each beginning with any of its indices.
func turnedTriangles(r *rand.Rand, list []impl.Triangle) []impl.Triangle {
	var out []impl.Triangle
	for _, i := range r.Perm(len(list)) {
		t := list[i]
		out = append(out, []impl.Triangle{t, tri(t.B, t.C, t.A), tri(t.C, t.A, t.B)}[r.IntN(3)])
	}
	return out
}

func TestP52TrianglesOfAnyOrder(t *testing.T) {
	r := fixedRandom()
	for _, p := range cutPolygons() {
		list := turnedTriangles(r, wantTriangles(p))
		before := slices.Clone(list)
		if !impl.CheckTriangulation(p, list) {
			t.Fatalf("CheckTriangulation(%v, %v) fails", p, list)
		}
		if !slices.Equal(list, before) {
			t.Fatalf("CheckTriangulation changes %v to %v", before, list)
		}
	}
}

func TestP51P52P53Limits(t *testing.T) {
	most, more := manyPoints(impl.MaxVertices), manyPoints(impl.MaxVertices+1)
	for _, p := range [][]impl.Point{most, reversed(most)} {
		if len(impl.EarsOf(p)) != impl.MaxVertices || len(impl.Triangulate(p)) != impl.MaxVertices-2 || !impl.CheckTriangulation(p, wantTriangles(p)) {
			t.Errorf("a polygon with %d vertices is rejected", len(p))
		}
	}
	for _, p := range [][]impl.Point{more, reversed(more)} {
		if impl.EarsOf(p) != nil || impl.Triangulate(p) != nil || impl.CheckTriangulation(p, wantTriangles(p)) {
			t.Errorf("a polygon with %d vertices is accepted", len(p))
		}
	}
	corners := []impl.Point{xy(-1000, -1000), xy(1000, -1000), xy(1000, 1000), xy(-1000, 1000)}
	if !slices.Equal(impl.Triangulate(corners), tris(3, 0, 1, 1, 2, 3)) || !slices.Equal(impl.EarsOf(corners), []int{0, 1, 2, 3}) {
		t.Errorf("Triangulate(%v) = %v", corners, impl.Triangulate(corners))
	}
}

// isRejected fails the test unless the functions of the chapter reject a polygon.
func isRejected(t *testing.T, name string, p []impl.Point) {
	t.Helper()
	if ears, list := impl.EarsOf(p), impl.Triangulate(p); ears != nil || list != nil {
		t.Errorf("%s: EarsOf(%v) = %v, Triangulate = %v", name, p, ears, list)
	}
	var fan, back []impl.Triangle
	for i := 2; i < len(p); i++ {
		fan, back = append(fan, tri(0, i-1, i)), append(back, tri(0, i, i-1))
	}
	for _, list := range [][]impl.Triangle{nil, fan, back, tris(0, 1, 2), tris(0, 2, 1), tris(0, 0, 0)} {
		if impl.CheckTriangulation(p, list) {
			t.Errorf("%s: CheckTriangulation(%v, %v) holds", name, p, list)
		}
	}
}

func TestP51P52P53InvalidPolygons(t *testing.T) {
	for name, p := range notSimple() {
		isRejected(t, name, p)
		isRejected(t, name+", reversed", reversed(p))
	}
	for _, p := range flatPolygons() {
		isRejected(t, "flat", p)
	}
	// These triangles would divide the triangle with a vertex on a side.
	if p := []impl.Point{xy(0, 0), xy(2, 0), xy(4, 0), xy(0, 3)}; impl.CheckTriangulation(p, tris(0, 1, 3, 1, 2, 3)) {
		t.Errorf("CheckTriangulation(%v) holds", p)
	}
}

// triangleLists calls f for all lists of n of some triangles.
func triangleLists(some []impl.Triangle, n int, f func(list []impl.Triangle)) {
	var extend func(list []impl.Triangle)
	extend = func(list []impl.Triangle) {
		if len(list) == n {
			f(slices.Clone(list))
			return
		}
		for _, t := range some {
			extend(append(list, t))
		}
	}
	extend(nil)
}

// allTriangles returns the triangles with all indices in low..high for which keep holds.
func allTriangles(low int, high int, keep func(t impl.Triangle) bool) []impl.Triangle {
	var list []impl.Triangle
	for a := low; a <= high; a++ {
		for b := low; b <= high; b++ {
			for c := low; c <= high; c++ {
				if t := tri(a, b, c); keep(t) {
					list = append(list, t)
				}
			}
		}
	}
	return list
}

// countAccepted returns how many lists of n of some triangles CheckTriangulation accepts for a polygon.
func countAccepted(t *testing.T, p []impl.Point, some []impl.Triangle, n int) int {
	t.Helper()
	count := 0
	triangleLists(some, n, func(list []impl.Triangle) {
		got := impl.CheckTriangulation(p, list)
		if got != divide(p, list) {
			t.Fatalf("CheckTriangulation(%v, %v) = %v", p, list, got)
		}
		if got {
			count++
		}
	})
	return count
}

func TestP53AllListsOfTriangles(t *testing.T) {
	square := []impl.Point{xy(0, 0), xy(4, 0), xy(4, 4), xy(0, 4)}
	arrow := []impl.Point{xy(0, 0), xy(4, 4), xy(0, 8), xy(2, 4)}
	corner := []impl.Point{xy(0, 0), xy(4, 0), xy(0, 4)}
	any := func(impl.Triangle) bool { return true }
	for _, c := range []struct {
		p    []impl.Point
		want int
	}{
		{corner, 3}, {square, 2 * 2 * 9}, {arrow, 2 * 9},
	} {
		for _, p := range [][]impl.Point{c.p, reversed(c.p), rotated(c.p, 1)} {
			some := allTriangles(-1, len(p), any)
			if n := countAccepted(t, p, some, len(p)-2); n != c.want {
				t.Errorf("CheckTriangulation of %v accepts %d lists, want %d", p, n, c.want)
			}
			if countAccepted(t, p, some, len(p)-3) != 0 || countAccepted(t, p, some[:60], len(p)-1) != 0 {
				t.Errorf("CheckTriangulation of %v accepts lists of another length", p)
			}
		}
	}
}

func TestP53AllListsOfCounterclockwiseTriangles(t *testing.T) {
	for _, c := range []struct {
		p    []impl.Point
		want int
	}{
		{[]impl.Point{xy(0, 0), xy(4, 0), xy(5, 3), xy(2, 5), xy(-1, 3)}, 5 * 6 * 27},
		{[]impl.Point{xy(0, 0), xy(4, 0), xy(4, 4), xy(2, 1), xy(0, 4)}, 6 * 27},
		{[]impl.Point{xy(0, 0), xy(6, 0), xy(6, 6), xy(3, 4), xy(0, 6)}, 3 * 6 * 27},
		{[]impl.Point{xy(0, 0), xy(2, -2), xy(4, 0), xy(6, 0), xy(3, 5)}, 2 * 6 * 27},
	} {
		for _, p := range [][]impl.Point{c.p, reversed(c.p)} {
			some := allTriangles(0, 4, func(t impl.Triangle) bool { return crossOf(cornersOf(p, t)) > 0 })
			if n := countAccepted(t, p, some, 3); n != c.want {
				t.Errorf("CheckTriangulation of %v accepts %d lists, want %d", p, n, c.want)
			}
		}
	}
}

// changedTriangles calls f for lists that differ a little from some triangles.
func changedTriangles(list []impl.Triangle, n int, f func(list []impl.Triangle)) {
	f(nil)
	f(append(slices.Clone(list), list[0]))
	f(append(slices.Clone(list), impl.Triangle{}))
	for i, t := range list {
		f(slices.Delete(slices.Clone(list), i, i+1))
		changes := tris(t.B, t.A, t.C, t.A, t.A, t.C, 0, 0, 0, -1, t.B, t.C, t.A, n, t.C, t.A, t.B, -1, math.MinInt, t.B, t.C, t.A, math.MaxInt, t.C)
		for v := range n {
			changes = append(changes, tri(v, t.B, t.C), tri(t.A, v, t.C), tri(t.A, t.B, v))
		}
		for _, u := range append(changes, list...) {
			other := slices.Clone(list)
			other[i] = u
			f(other)
		}
	}
}

func TestP53ChangedTriangulations(t *testing.T) {
	held, failed := 0, 0
	for n, p := range cutPolygons() {
		if n%23 > 0 { // the changes are many
			continue
		}
		changedTriangles(wantTriangles(p), len(p), func(list []impl.Triangle) {
			got := impl.CheckTriangulation(p, list)
			if got != divide(p, list) {
				t.Fatalf("CheckTriangulation(%v, %v) = %v", p, list, got)
			}
			if got {
				held++
			} else {
				failed++
			}
		})
	}
	if min(held, failed) < 1000 {
		t.Errorf("only %d are accepted and %d are not", held, failed)
	}
}

// centerTimes3 returns three times the center of a triangle.
func centerTimes3(p []impl.Point, t impl.Triangle) impl.Point {
	a, b, c := cornersOf(p, t)
	return shift(shift(a, b), c)
}

// times returns points moved away from 0, 0 by a factor.
func times(list []impl.Point, n int) []impl.Point {
	var out []impl.Point
	for _, p := range list {
		out = append(out, xy(n*p.X, n*p.Y))
	}
	return out
}

// withFlip returns triangles with the common side of two of them replaced by the other
// diagonal, right or not; nil if they have no common side.
func withFlip(list []impl.Triangle, i int, k int) []impl.Triangle {
	t, u := indicesOf(list[i]), indicesOf(list[k])
	for x := range 3 {
		for y := range 3 {
			a, b, far := t[x], t[(x+1)%3], u[(y+2)%3]
			if u[y] == b && u[(y+1)%3] == a {
				out := slices.Clone(list)
				out[i], out[k] = tri(t[(x+2)%3], a, far), tri(t[(x+2)%3], far, b)
				return out
			}
		}
	}
	return nil
}

func TestP53AcceptedTrianglesAreCounterclockwiseAndInside(t *testing.T) {
	r := fixedRandom()
	flips := 0
	for range 200 {
		p := randomPolygon(r, 4+r.IntN(17), 10)
		if isFlat(p) {
			continue
		}
		list := wantTriangles(p)
		for range 100 {
			other := withFlip(list, r.IntN(len(list)), r.IntN(len(list)))
			if impl.CheckTriangulation(p, other) {
				list = other
				flips++
			}
			for _, u := range list {
				if impl.Orient(cornersOf(p, u)) != 1 {
					t.Fatalf("CheckTriangulation(%v) accepts %v", p, u)
				}
			}
		}
		for _, u := range list {
			if got := impl.Locate(times(p, 3), centerTimes3(p, u)); got != 1 {
				t.Fatalf("CheckTriangulation(%v) accepts %v: Locate of its center is %d", p, u, got)
			}
		}
	}
	if flips < 500 {
		t.Errorf("only %d flips", flips)
	}
}

func TestP51P52ChangedResultsDoNotChangeTheNextOnes(t *testing.T) {
	p := sharpComb()
	ears, list := impl.EarsOf(p), impl.Triangulate(p)
	for i := range ears[:cap(ears)] {
		ears[:cap(ears)][i] = -7
	}
	for i := range list[:cap(list)] {
		list[:cap(list)][i] = tri(-7, -7, -7)
	}
	if !slices.Equal(impl.EarsOf(p), wantEars(p)) || !slices.Equal(impl.Triangulate(p), wantTriangles(p)) {
		t.Error("a changed result changes the next one")
	}
}
