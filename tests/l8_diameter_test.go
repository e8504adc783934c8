package tests

import (
	"math/big"
	"slices"
	"testing"

	"loop.example/planargeometry/impl"
)

// wantDiameter returns the result that Diameter should have.
func wantDiameter(list []impl.Point) [3]int {
	if len(list) == 0 {
		return [3]int{0, 0, -1}
	}
	want := [3]int{}
	for i, a := range list {
		for k := i + 1; k < len(list); k++ {
			if n := squareOf(a, list[k]); n > want[2] {
				want = [3]int{i, k, n}
			}
		}
	}
	return want
}

// diameterOf returns the results of Diameter as one value.
func diameterOf(list []impl.Point) [3]int {
	i, k, n := impl.Diameter(list)
	return [3]int{i, k, n}
}

func TestP38NoPairIsFarther(t *testing.T) {
	for _, list := range someLists() {
		before := slices.Clone(list)
		got := diameterOf(list)
		if got != wantDiameter(list) {
			t.Fatalf("Diameter(%v) = %v, want %v", list, got, wantDiameter(list))
		}
		if n := diameterOf(impl.Hull(list))[2]; n != got[2] {
			t.Fatalf("Diameter(%v) = %v, but %d for its hull", list, got, n)
		}
		sameList(t, "the argument of Diameter", list, before)
	}
}

func TestP38OrdinaryDiameters(t *testing.T) {
	for _, c := range []struct {
		list []impl.Point
		want [3]int
	}{
		{nil, [3]int{0, 0, -1}}, {[]impl.Point{xy(7, 7)}, [3]int{0, 0, 0}}, {[]impl.Point{xy(7, 7), xy(7, 7), xy(7, 7)}, [3]int{0, 0, 0}},
		{[]impl.Point{xy(7, 7), xy(7, 8)}, [3]int{0, 1, 1}}, {[]impl.Point{xy(7, 7), xy(7, 7), xy(7, 8)}, [3]int{0, 2, 1}},
		{[]impl.Point{xy(0, 0), xy(1, 0), xy(1, 1), xy(0, 1)}, [3]int{0, 2, 2}}, {[]impl.Point{xy(0, 1), xy(1, 1), xy(0, 0), xy(1, 0)}, [3]int{0, 3, 2}},
		{[]impl.Point{xy(2, 2), xy(1, 1), xy(3, 3), xy(0, 0), xy(3, 3), xy(0, 0)}, [3]int{2, 3, 18}},
		{[]impl.Point{xy(0, 0), xy(1000, -1000), xy(-1000, 1000)}, [3]int{1, 2, 8000000}},
	} {
		if got := diameterOf(c.list); got != c.want {
			t.Errorf("Diameter(%v) = %v, want %v", c.list, got, c.want)
		}
	}
}

func TestP38P39P40InvalidLists(t *testing.T) {
	for _, list := range badLists() {
		if got := diameterOf(list); got != [3]int{0, 0, -1} {
			t.Errorf("Diameter(%v) = %v", list, got)
		}
		if n := impl.Extreme(list, xy(1, 0)); n != -1 {
			t.Errorf("Extreme(%v) = %d", list, n)
		}
		if n := impl.WidthEdge(list); n != -1 {
			t.Errorf("WidthEdge(%v) = %d", list, n)
		}
	}
}

func TestP136TheFarthestPointsAreVerticesOfTheHull(t *testing.T) {
	for _, list := range someLists() {
		i, k, n := impl.Diameter(list)
		if h := impl.Hull(list); n > 0 && !(slices.Contains(h, list[i]) && slices.Contains(h, list[k])) {
			t.Fatalf("Diameter(%v) = %d, %d, but Hull = %v", list, i, k, h)
		}
	}
}

// dotOf returns the product of a point and a direction.
func dotOf(p impl.Point, d impl.Point) int {
	return p.X*d.X + p.Y*d.Y
}

func TestP39NoPointIsFartherInADirection(t *testing.T) {
	directions := append(grid(5, 5, xy(-2, -2)), somePoints()...)
	for _, list := range someLists() {
		before := slices.Clone(list)
		for _, d := range directions {
			want := -1
			for i, p := range list {
				if want < 0 || dotOf(p, d) > dotOf(list[want], d) {
					want = i
				}
			}
			got := impl.Extreme(list, d)
			if got != want {
				t.Fatalf("Extreme(%v, %v) = %d, want %d", list, d, got, want)
			}
			h := impl.Hull(list)
			if n := impl.Extreme(h, d); n >= 0 && dotOf(h[n], d) != dotOf(list[got], d) {
				t.Fatalf("Extreme(%v, %v) = %d, but %d for its hull", list, d, got, n)
			}
		}
		sameList(t, "the argument of Extreme", list, before)
	}
}

func TestP39OrdinaryDirections(t *testing.T) {
	list := []impl.Point{xy(-5, -5), xy(0, 0), xy(3, 0), xy(3, 4), xy(1, 4)}
	for _, c := range []struct {
		d    impl.Point
		want int
	}{
		{xy(0, 1), 3}, {xy(1, 0), 2}, {xy(-1, 0), 0}, {xy(0, -1), 0}, {xy(0, 0), 0}, {xy(-1, 1), 4}, {xy(1000, -1000), 2}, {xy(1000, 1000), 3}, {xy(-1000, 999), 4},
	} {
		if n := impl.Extreme(list, c.d); n != c.want {
			t.Errorf("Extreme in the direction %v = %d, want %d", c.d, n, c.want)
		}
	}
	if impl.Extreme(nil, xy(1, 0)) != -1 || impl.Extreme([]impl.Point{xy(-3, 0)}, xy(1, 0)) != 0 {
		t.Error("Extreme of nothing, or of one point")
	}
	for _, bad := range badPoints() {
		if n := impl.Extreme(list, bad); n != -1 {
			t.Errorf("Extreme in the direction %v = %d", bad, n)
		}
	}
}

// widthOf returns the squared distance of the vertex of a hull that is farthest from the line of an edge.
func widthOf(h []impl.Point, e impl.Segment) *big.Rat {
	area := 0
	for _, p := range h {
		area = max(area, crossOf(e.A, e.B, p))
	}
	return product(exact(area, squareOf(e.A, e.B)), big1(area))
}

// wantWidthEdge returns the result that WidthEdge should have.
func wantWidthEdge(list []impl.Point) int {
	h := wantHull(list)
	if len(h) < 3 {
		return -1
	}
	best := 0
	for i := range h {
		if widthOf(h, edge(h, i)).Cmp(widthOf(h, edge(h, best))) < 0 {
			best = i
		}
	}
	return best
}

func TestP40WidthsBelongToEdgesOfTheHull(t *testing.T) {
	for _, list := range someLists() {
		before := slices.Clone(list)
		got, h := impl.WidthEdge(list), impl.Hull(list)
		if got != wantWidthEdge(list) || got < -1 || got >= len(h) {
			t.Fatalf("WidthEdge(%v) = %d, want %d", list, got, wantWidthEdge(list))
		}
		if n := impl.WidthEdge(h); n != got {
			t.Fatalf("WidthEdge(%v) = %d, but %d for its hull", list, got, n)
		}
		sameList(t, "the argument of WidthEdge", list, before)
	}
}

func TestP40WidthsOfLargeHulls(t *testing.T) {
	r := fixedRandom()
	for range 3000 {
		// Corners near those of the largest square have areas and edges the
		// products of which exceed 64 bits.
		list := []impl.Point{
			xy(-1000+r.IntN(20), -1000+r.IntN(20)), xy(1000-r.IntN(20), -1000+r.IntN(20)),
			xy(1000-r.IntN(20), 1000-r.IntN(20)), xy(-1000+r.IntN(20), 1000-r.IntN(20)),
		}
		if got := impl.WidthEdge(list); got != wantWidthEdge(list) {
			t.Fatalf("WidthEdge(%v) = %d, want %d", list, got, wantWidthEdge(list))
		}
	}
}

func TestP40OrdinaryWidths(t *testing.T) {
	for _, c := range []struct {
		list []impl.Point
		want int
	}{
		{nil, -1}, {[]impl.Point{xy(1, 1)}, -1}, {[]impl.Point{xy(1, 1), xy(2, 2)}, -1}, {[]impl.Point{xy(1, 1), xy(2, 2), xy(5, 5)}, -1},
		{[]impl.Point{xy(3, 3), xy(3, 3), xy(3, 3)}, -1},
		{[]impl.Point{xy(0, 0), xy(10, 0), xy(10, 1), xy(0, 1)}, 0}, {[]impl.Point{xy(0, 0), xy(1, 0), xy(1, 9), xy(0, 9)}, 1},
		{[]impl.Point{xy(0, 9), xy(0, 0), xy(0, 5), xy(1, 9), xy(1, 0)}, 1},
		{[]impl.Point{xy(0, 0), xy(3, 0), xy(0, 4)}, 1}, {[]impl.Point{xy(0, 0), xy(1, 0), xy(0, 1)}, 1}, {[]impl.Point{xy(0, 0), xy(5, 0), xy(3, 1)}, 0},
		{[]impl.Point{xy(0, 0), xy(4, 1), xy(5, 5), xy(1, 4)}, 0},
		{[]impl.Point{xy(1000, 1000), xy(-1000, 1000), xy(1000, -1000), xy(-1000, -1000)}, 0},
		{[]impl.Point{xy(1000, 1000), xy(-1000, 999), xy(1000, -1000), xy(-1000, -1000)}, 2},
		{[]impl.Point{xy(999, 1000), xy(-1000, 1000), xy(999, -1000), xy(-1000, -1000)}, 1},
	} {
		if n := impl.WidthEdge(c.list); n != c.want || n != wantWidthEdge(c.list) {
			t.Errorf("WidthEdge(%v) = %d, want %d", c.list, n, c.want)
		}
	}
}
