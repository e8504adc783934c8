package tests

import (
	"math/big"
	"slices"
	"testing"

	"loop.example/planargeometry/impl"
)

func TestValidPointHasLimits(t *testing.T) {
	for _, p := range somePoints() {
		if !impl.ValidPoint(p) {
			t.Errorf("ValidPoint(%v) fails", p)
		}
	}
	for _, p := range badPoints() {
		if impl.ValidPoint(p) {
			t.Errorf("ValidPoint(%v) holds", p)
		}
	}
}

// crossOf returns the cross product by its definition.
func crossOf(a impl.Point, b impl.Point, c impl.Point) int {
	return (b.X-a.X)*(c.Y-a.Y) - (b.Y-a.Y)*(c.X-a.X)
}

func TestP1CrossIsAntisymmetric(t *testing.T) {
	triples(somePoints(), func(a, b, c impl.Point) {
		n := impl.Cross(a, b, c)
		if n != crossOf(a, b, c) {
			t.Fatalf("Cross(%v, %v, %v) = %d", a, b, c, n)
		}
		if impl.Cross(b, a, c) != -n || impl.Cross(a, c, b) != -n || impl.Cross(c, b, a) != -n {
			t.Fatalf("Cross of exchanged %v, %v, %v is not negated", a, b, c)
		}
		if impl.Cross(b, c, a) != n || impl.Cross(c, a, b) != n {
			t.Fatalf("Cross of rotated %v, %v, %v changes", a, b, c)
		}
	})
}

func TestP1CrossOfCornersOfTheSquare(t *testing.T) {
	if n := impl.Cross(xy(-1000, -1000), xy(1000, -1000), xy(1000, 1000)); n != 4000000 {
		t.Errorf("Cross = %d", n)
	}
}

func TestP2OrientIsSignOfCross(t *testing.T) {
	triples(somePoints(), func(a, b, c impl.Point) {
		if n := impl.Orient(a, b, c); n != big.NewInt(int64(crossOf(a, b, c))).Sign() {
			t.Fatalf("Orient(%v, %v, %v) = %d", a, b, c, n)
		}
	})
}

func TestP1P2InvalidPoints(t *testing.T) {
	a, b := xy(0, 0), xy(1, 0)
	for _, bad := range badPoints() {
		for _, p := range [][3]impl.Point{{bad, a, b}, {a, bad, b}, {a, b, bad}, {bad, bad, bad}} {
			if n := impl.Cross(p[0], p[1], p[2]); n != 0 {
				t.Errorf("Cross(%v) = %d", p, n)
			}
			if n := impl.Orient(p[0], p[1], p[2]); n != 2 {
				t.Errorf("Orient(%v) = %d", p, n)
			}
		}
	}
}

func TestP3DistancesAreSymmetric(t *testing.T) {
	for _, a := range somePoints() {
		for _, b := range somePoints() {
			n := impl.SquaredDistance(a, b)
			if n != (a.X-b.X)*(a.X-b.X)+(a.Y-b.Y)*(a.Y-b.Y) {
				t.Errorf("SquaredDistance(%v, %v) = %d", a, b, n)
			}
			if n != impl.SquaredDistance(b, a) || (n == 0) != (a == b) {
				t.Errorf("SquaredDistance(%v, %v) = %d is not symmetric, or 0", a, b, n)
			}
		}
	}
	if impl.SquaredDistance(xy(-1000, 1000), xy(1000, -1000)) != impl.MaxSquare {
		t.Error("SquaredDistance of corners is not MaxSquare")
	}
}

func TestP3InvalidPoints(t *testing.T) {
	for _, bad := range badPoints() {
		if impl.SquaredDistance(bad, xy(0, 0)) != -1 || impl.SquaredDistance(xy(0, 0), bad) != -1 || impl.SquaredDistance(bad, bad) != -1 {
			t.Errorf("SquaredDistance of %v is not -1", bad)
		}
	}
}

// ascendingPoints reports whether points are in order, none of them twice.
func ascendingPoints(list []impl.Point) bool {
	for i := 1; i < len(list); i++ {
		a, b := list[i-1], list[i]
		if a.X > b.X || a.X == b.X && a.Y >= b.Y {
			return false
		}
	}
	return true
}

func TestP4SortingIsIdempotent(t *testing.T) {
	r := fixedRandom()
	for range 2000 {
		list := randomList(r, impl.MaxPoints)
		before := slices.Clone(list)
		sorted := impl.SortPoints(list)
		sameList(t, "the argument of SortPoints", list, before)
		if !ascendingPoints(sorted) {
			t.Fatalf("SortPoints(%v) = %v is not ascending", list, sorted)
		}
		for _, p := range list {
			if !slices.Contains(sorted, p) {
				t.Fatalf("SortPoints(%v) = %v lacks %v", list, sorted, p)
			}
		}
		for _, p := range sorted {
			if !slices.Contains(list, p) {
				t.Fatalf("SortPoints(%v) = %v adds %v", list, sorted, p)
			}
		}
		sameList(t, "SortPoints of sorted points", impl.SortPoints(sorted), sorted)
		slices.Reverse(list)
		sameList(t, "SortPoints of reversed points", impl.SortPoints(list), sorted)
		r.Shuffle(len(list), func(i, k int) { list[i], list[k] = list[k], list[i] })
		sameList(t, "SortPoints of shuffled points", impl.SortPoints(list), sorted)
	}
}

func TestP4SortPointsOrdersByXThenY(t *testing.T) {
	list := []impl.Point{xy(1, -5), xy(0, 7), xy(-1000, 1000), xy(0, -7), xy(1, -5), xy(0, 7)}
	sameList(t, "SortPoints", impl.SortPoints(list), []impl.Point{xy(-1000, 1000), xy(0, -7), xy(0, 7), xy(1, -5)})
	sameList(t, "SortPoints of nothing", impl.SortPoints(nil), nil)
	sameList(t, "SortPoints of equal points", impl.SortPoints([]impl.Point{xy(2, 3), xy(2, 3)}), []impl.Point{xy(2, 3)})
}

func TestP4ResultIsNewMemory(t *testing.T) {
	list := []impl.Point{xy(0, 0), xy(1, 1), xy(2, 2)}
	sorted := impl.SortPoints(list[:2])
	sorted[0] = xy(9, 9)
	_ = append(sorted, xy(8, 8))
	sameList(t, "the argument", list, []impl.Point{xy(0, 0), xy(1, 1), xy(2, 2)})
}

func TestP4InvalidLists(t *testing.T) {
	most := manyPoints(impl.MaxPoints)
	sameList(t, "SortPoints of MaxPoints points", impl.SortPoints(most), most)
	if impl.SortPoints(manyPoints(impl.MaxPoints+1)) != nil {
		t.Error("SortPoints accepts too many points")
	}
	if impl.SortPoints(make([]impl.Point, impl.MaxPoints+1)) != nil {
		t.Error("SortPoints accepts too many equal points")
	}
	for _, bad := range badPoints() {
		if impl.SortPoints([]impl.Point{xy(0, 0), bad}) != nil {
			t.Errorf("SortPoints accepts %v", bad)
		}
	}
}

// onOneLine reports whether all triples of points are on one line.
func onOneLine(list []impl.Point) bool {
	all := true
	triples(list, func(a, b, c impl.Point) {
		all = all && crossOf(a, b, c) == 0
	})
	return all
}

func TestP5CollinearPointsAreOnOneLine(t *testing.T) {
	r := fixedRandom()
	for range 3000 {
		list := randomList(r, 5)
		before := slices.Clone(list)
		got := impl.Collinear(list)
		if got != onOneLine(list) {
			t.Fatalf("Collinear(%v) = %v", list, got)
		}
		sameList(t, "the argument of Collinear", list, before)
		byEnds := true
		sorted := impl.SortPoints(list)
		for _, p := range list {
			byEnds = byEnds && impl.Cross(sorted[0], sorted[len(sorted)-1], p) == 0
		}
		if got != byEnds {
			t.Fatalf("Collinear(%v) = %v, unlike the line of the first and the last point", list, got)
		}
	}
}

func TestP5CollinearEdgeCases(t *testing.T) {
	lists := map[string][]impl.Point{
		"nothing":      nil,
		"one point":    {xy(5, 5)},
		"two points":   {xy(5, 5), xy(-3, 2)},
		"equal points": {xy(5, 5), xy(5, 5), xy(5, 5)},
		"a vertical":   {xy(5, 5), xy(5, -5), xy(5, 0), xy(5, 1000)},
		"the limits":   {xy(-1000, -1000), xy(0, 0), xy(1000, 1000)},
		"MaxPoints":    make([]impl.Point, impl.MaxPoints),
	}
	for name, list := range lists {
		if !impl.Collinear(list) {
			t.Errorf("Collinear of %s fails", name)
		}
	}
	if impl.Collinear([]impl.Point{xy(1, 1), xy(1, 1), xy(2, 2), xy(1, 2)}) {
		t.Error("Collinear holds for equal points and a triangle")
	}
}

func TestP5InvalidLists(t *testing.T) {
	if impl.Collinear(make([]impl.Point, impl.MaxPoints+1)) {
		t.Error("Collinear accepts too many points")
	}
	for _, bad := range badPoints() {
		if impl.Collinear([]impl.Point{bad}) || impl.Collinear([]impl.Point{xy(0, 0), xy(0, 0), bad}) {
			t.Errorf("Collinear accepts %v", bad)
		}
	}
}

func TestP130MovingKeepsOrientation(t *testing.T) {
	vectors := []impl.Point{xy(5, -7), xy(-998, 0), xy(0, 998), xy(998, -998), xy(-300, 400)}
	triples(grid(3, 3, xy(0, 0)), func(a, b, c impl.Point) {
		n := impl.Orient(a, b, c)
		for _, v := range vectors {
			if got := impl.Orient(shift(a, v), shift(b, v), shift(c, v)); got != n || got == 2 {
				t.Fatalf("Orient of %v, %v, %v moved by %v = %d, want %d", a, b, c, v, got, n)
			}
		}
	})
}
