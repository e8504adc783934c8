package tests

import (
	"slices"
	"testing"

	"loop.example/planargeometry/impl"
)

// wantHull returns the hull of a valid list: from each vertex it goes to the
// point that has no other one to the right, of several the farthest one.
func wantHull(list []impl.Point) []impl.Point {
	if len(list) == 0 {
		return nil
	}
	first := list[smallest(list)]
	hull := []impl.Point{first}
	for {
		last := hull[len(hull)-1]
		next := last
		for _, p := range list {
			n := crossOf(last, next, p)
			if next == last || n < 0 || n == 0 && squareOf(last, p) > squareOf(last, next) {
				next = p
			}
		}
		if next == first {
			return hull
		}
		hull = append(hull, next)
	}
}

// inHull reports whether a point is left of or on all edges of a hull.
func inHull(h []impl.Point, q impl.Point) bool {
	if len(h) == 1 {
		return h[0] == q
	}
	if len(h) == 2 {
		return between(seg(h[0], h[1]), q)
	}
	for i := range h {
		if crossOf(h[i], h[(i+1)%len(h)], q) < 0 {
			return false
		}
	}
	return true
}

func TestP30HullsAreConvexAndHaveAllPoints(t *testing.T) {
	for _, list := range someLists() {
		h := impl.Hull(list)
		sameList(t, "Hull", h, wantHull(list))
		sameList(t, "Hull of a hull", impl.Hull(h), h)
		for i, p := range h {
			if !slices.Contains(list, p) {
				t.Fatalf("Hull(%v) = %v adds %v", list, h, p)
			}
			if len(h) >= 3 && crossOf(p, h[(i+1)%len(h)], h[(i+2)%len(h)]) <= 0 {
				t.Fatalf("Hull(%v) = %v is not convex", list, h)
			}
		}
		for _, q := range list {
			if !inHull(h, q) {
				t.Fatalf("Hull(%v) = %v does not have %v", list, h, q)
			}
		}
		keepsArgument(t, "Hull", list, impl.Hull)
		keepsArgument(t, "Hull", h, impl.Hull)
	}
}

func TestP30OrdinaryHulls(t *testing.T) {
	square := []impl.Point{xy(0, 0), xy(4, 0), xy(4, 4), xy(0, 4)}
	for _, c := range []struct{ list, want []impl.Point }{
		{nil, nil}, {[]impl.Point{xy(3, 4)}, []impl.Point{xy(3, 4)}}, {make([]impl.Point, 5), []impl.Point{xy(0, 0)}},
		{[]impl.Point{xy(3, 3), xy(1, 1)}, []impl.Point{xy(1, 1), xy(3, 3)}},
		{[]impl.Point{xy(3, 3), xy(1, 1), xy(2, 2), xy(1, 1), xy(3, 3)}, []impl.Point{xy(1, 1), xy(3, 3)}},
		{[]impl.Point{xy(1, 5), xy(1, -5), xy(1, 0)}, []impl.Point{xy(1, -5), xy(1, 5)}},
		{[]impl.Point{xy(0, 0), xy(0, 4), xy(4, 4), xy(4, 0)}, square},
		{[]impl.Point{xy(2, 2), xy(0, 0), xy(4, 0), xy(2, 0), xy(4, 4), xy(0, 4), xy(1, 3), xy(0, 1), xy(3, 4), xy(4, 3)}, square},
		{[]impl.Point{xy(0, 2), xy(0, 0), xy(0, 1), xy(5, 1)}, []impl.Point{xy(0, 0), xy(5, 1), xy(0, 2)}},
		{reversed(manyPoints(20)), manyPoints(20)},
	} {
		sameList(t, "Hull", impl.Hull(c.list), c.want)
	}
}

func TestP30P32InvalidLists(t *testing.T) {
	for _, list := range badLists() {
		if h := impl.Hull(list); h != nil {
			t.Errorf("Hull(%v) = %v", list, h)
		}
		if n := impl.HullArea(list); n != -1 {
			t.Errorf("HullArea(%v) = %d", list, n)
		}
	}
}

func TestP31HullsDoNotDependOnTheOrderOfPoints(t *testing.T) {
	r := fixedRandom()
	for _, list := range someLists() {
		h, n := impl.Hull(list), impl.HullArea(list)
		shuffled := slices.Clone(list)
		r.Shuffle(len(list), func(i, k int) { shuffled[i], shuffled[k] = shuffled[k], shuffled[i] })
		for _, other := range [][]impl.Point{reversed(list), impl.SortPoints(list), shuffled} {
			sameList(t, "Hull in another order", impl.Hull(other), h)
			if impl.HullArea(other) != n {
				t.Fatalf("HullArea(%v) = %d, want %d", other, impl.HullArea(other), n)
			}
		}
	}
}

func TestP31AMoveMovesTheHull(t *testing.T) {
	r := fixedRandom()
	for range 300 {
		list := randomList(r, impl.MaxPoints)
		for _, v := range []impl.Point{xy(998, -998), xy(-17, 400), xy(-998, 998)} {
			sameList(t, "Hull of moved points", impl.Hull(moved(list, v)), moved(impl.Hull(list), v))
		}
	}
}

func TestP32MorePointsHaveALargerHull(t *testing.T) {
	for _, list := range someLists() {
		h, n := impl.Hull(list), impl.HullArea(list)
		if n != areaOf(wantHull(list)) {
			t.Fatalf("HullArea(%v) = %d, want %d", list, n, areaOf(wantHull(list)))
		}
		for k := range list {
			part := list[:k]
			if impl.HullArea(part) > n || impl.HullArea(part) < 0 {
				t.Fatalf("HullArea(%v) = %d, more than %d", part, impl.HullArea(part), n)
			}
			for _, p := range impl.Hull(part) {
				if !inHull(h, p) {
					t.Fatalf("Hull(%v) = %v does not have %v", list, h, p)
				}
			}
		}
	}
}

func TestP32OrdinaryHullAreas(t *testing.T) {
	for _, c := range []struct {
		list []impl.Point
		want int
	}{
		{nil, 0}, {[]impl.Point{xy(5, 7)}, 0}, {[]impl.Point{xy(5, 7), xy(5, 7)}, 0}, {[]impl.Point{xy(5, 7), xy(6, 9)}, 0},
		{[]impl.Point{xy(0, 0), xy(3, 3), xy(-5, -5)}, 0}, {[]impl.Point{xy(0, 0), xy(0, 2), xy(3, 0)}, 6}, {[]impl.Point{xy(0, 0), xy(3, 0), xy(0, 2)}, 6},
		{[]impl.Point{xy(1000, 1000), xy(-1000, 1000), xy(1000, -1000), xy(-1000, -1000)}, 8000000},
	} {
		if n := impl.HullArea(c.list); n != c.want {
			t.Errorf("HullArea(%v) = %d, want %d", c.list, n, c.want)
		}
	}
}

func TestP147HullsOfPartsHaveTheHullOfAll(t *testing.T) {
	for _, list := range someLists() {
		want := impl.Hull(list)
		for k := range len(list) + 1 {
			both := slices.Concat(impl.Hull(list[:k]), impl.Hull(list[k:]))
			sameList(t, "Hull of two hulls", impl.Hull(both), want)
		}
	}
}

// isOwnHull reports whether vertices, beginning with the smallest one, are their hull and at least three.
func isOwnHull(p []impl.Point) bool {
	return len(p) >= 3 && slices.Equal(rotated(p, smallest(p)), wantHull(p))
}

func TestP33ConvexPolygonsAreTheirOwnHulls(t *testing.T) {
	check := func(p []impl.Point) {
		t.Helper()
		got := impl.IsConvex(p)
		if got != isOwnHull(p) {
			t.Fatalf("IsConvex(%v) = %v", p, got)
		}
		if got && !slices.Equal(impl.Hull(p), rotated(p, smallest(p))) {
			t.Fatalf("Hull(%v) = %v", p, impl.Hull(p))
		}
	}
	for n := range 5 {
		sequences(grid(3, 3, xy(-1, -1)), n, check)
	}
	lists := append(someLists(), allPolygons()...)
	for _, list := range lists {
		h := impl.Hull(list)
		for i := range h {
			check(rotated(h, i))
			check(reversed(rotated(h, i)))
		}
		check(list)
		check(reversed(list))
		keepsArgument(t, "IsConvex", list, func(p []impl.Point) []impl.Point { impl.IsConvex(p); return nil })
	}
}

func TestP33ConvexAndOtherPolygons(t *testing.T) {
	convex := [][]impl.Point{
		{xy(0, 0), xy(1, 0), xy(0, 1)}, {xy(1, 0), xy(0, 1), xy(0, 0)}, manyPoints(impl.MaxVertices),
		{xy(-1000, -1000), xy(1000, -1000), xy(1000, 1000), xy(-1000, 1000)},
	}
	for _, p := range convex {
		if !impl.IsConvex(p) || impl.IsConvex(reversed(p)) {
			t.Errorf("IsConvex fails for %v, or holds for the opposite direction", p)
		}
	}
	for name, p := range notConvex() {
		if impl.IsConvex(p) {
			t.Errorf("IsConvex holds for %s: %v", name, p)
		}
	}
}

// notConvex returns lists that are no convex polygons.
func notConvex() map[string][]impl.Point {
	list := notSimple()
	list["clockwise vertices"] = []impl.Point{xy(0, 0), xy(0, 1), xy(1, 0)}
	list["an arrow"] = []impl.Point{xy(0, 0), xy(4, 0), xy(4, 4), xy(3, 1)}
	list["a vertex on a straight line"] = []impl.Point{xy(0, 0), xy(2, 0), xy(4, 0), xy(0, 4)}
	list["a first vertex on a straight line"] = []impl.Point{xy(2, 0), xy(4, 0), xy(0, 4), xy(0, 0)}
	list["a last vertex on a straight line"] = []impl.Point{xy(4, 0), xy(0, 4), xy(0, 0), xy(2, 0)}
	list["only left turns, twice around"] = []impl.Point{xy(0, 3), xy(-2, -3), xy(3, 1), xy(-3, 1), xy(2, -3)}
	list["twice the same triangle"] = []impl.Point{xy(0, 0), xy(4, 0), xy(0, 4), xy(0, 0), xy(4, 0), xy(0, 4)}
	list["a comb"] = comb()
	return list
}

func TestP34BothWaysToLocateAPointAgree(t *testing.T) {
	count := map[int]int{}
	for _, list := range append(someLists(), allPolygons()...) {
		h := impl.Hull(list)
		if len(h) < 3 {
			continue
		}
		points := slices.Concat(somePoints(), grid(7, 7, xy(-3, -3)), list)
		for i, q := range points {
			p := rotated(h, i%len(h))
			n := impl.LocateConvex(p, q)
			if n != placeIn(p, q) || n != impl.Locate(p, q) {
				t.Fatalf("LocateConvex(%v, %v) = %d, but Locate = %d", p, q, n, impl.Locate(p, q))
			}
			count[n]++
		}
		keepsArgument(t, "LocateConvex", h, func(p []impl.Point) []impl.Point { impl.LocateConvex(p, xy(0, 0)); return nil })
	}
	if len(count) != 3 || min(count[-1], count[0], count[1]) < 500 {
		t.Errorf("only %v points", count)
	}
}

func TestP34OrdinaryPlaces(t *testing.T) {
	p := []impl.Point{xy(0, 0), xy(4, 0), xy(4, 4), xy(0, 4)}
	for _, c := range []struct {
		q    impl.Point
		want int
	}{
		{xy(1, 1), 1}, {xy(0, 0), 0}, {xy(4, 4), 0}, {xy(2, 0), 0}, {xy(4, 1), 0}, {xy(0, 3), 0},
		{xy(5, 0), -1}, {xy(-1, 0), -1}, {xy(4, 5), -1}, {xy(5, 5), -1}, {xy(2, -1), -1}, {xy(-1000, 1000), -1},
	} {
		if n := impl.LocateConvex(p, c.q); n != c.want {
			t.Errorf("LocateConvex(%v) = %d, want %d", c.q, n, c.want)
		}
	}
}

func TestP34InvalidArguments(t *testing.T) {
	for name, p := range notConvex() {
		if n := impl.LocateConvex(p, xy(1, 1)); n != 2 {
			t.Errorf("LocateConvex in %s = %d", name, n)
		}
	}
	for _, bad := range badPoints() {
		if n := impl.LocateConvex([]impl.Point{xy(0, 0), xy(1, 0), xy(0, 1)}, bad); n != 2 {
			t.Errorf("LocateConvex of %v = %d", bad, n)
		}
	}
}
