package tests

import (
	"math/rand/v2"
	"slices"
	"testing"

	"loop.example/planargeometry/impl"
)

// allSums returns the sums of each point of a and each point of b.
func allSums(a []impl.Point, b []impl.Point) []impl.Point {
	var list []impl.Point
	for _, p := range a {
		list = append(list, moved(b, p)...)
	}
	return list
}

// wantSum returns the results that MinkowskiSum should have for valid lists.
func wantSum(a []impl.Point, b []impl.Point) ([]impl.Point, bool) {
	h := wantHull(allSums(a, b))
	for _, p := range h {
		if !impl.ValidPoint(p) {
			return nil, false
		}
	}
	return h, len(h) > 0
}

// sumOf returns the sum of two lists and whether it has at most MaxPoints vertices.
func sumOf(a []impl.Point, b []impl.Point) ([]impl.Point, bool) {
	s, ok := impl.MinkowskiSum(a, b)
	return s, ok && len(s) <= impl.MaxPoints
}

// wantMeet returns the result that HullsMeet should have for valid lists.
func wantMeet(a []impl.Point, b []impl.Point) bool {
	g, h := wantHull(a), wantHull(b)
	if len(g) == 0 || len(h) == 0 {
		return false
	}
	for i, p := range g {
		for k, q := range h {
			if inHull(g, q) || inHull(h, p) || meet(edge(g, i), edge(h, k)) {
				return true
			}
		}
	}
	return false
}

// wantSupportValue returns the result that SupportValue should have for valid arguments.
func wantSupportValue(list []impl.Point, d impl.Point) int {
	if len(list) == 0 {
		return 0
	}
	best := dotOf(list[0], d)
	for _, p := range list {
		best = max(best, dotOf(p, d))
	}
	return best
}

// opposite returns points mirrored at 0, 0.
func opposite(list []impl.Point) []impl.Point {
	return times(list, -1)
}

// quarterTurn returns points turned by 90 degrees counterclockwise around 0, 0.
func quarterTurn(list []impl.Point) []impl.Point {
	var out []impl.Point
	for _, p := range list {
		out = append(out, xy(-p.Y, p.X))
	}
	return out
}

// shapePairs calls f for pairs of lists of points: single points, points on
// one line, polygons with parallel sides, many vertices, and large coordinates.
func shapePairs(f func(a []impl.Point, b []impl.Point)) {
	some := [][]impl.Point{
		nil, {xy(0, 0)}, {xy(3, -2)}, {xy(3, -2), xy(3, -2)}, {xy(0, 0), xy(2, 0)}, {xy(0, 0), xy(0, 2)}, {xy(4, 0), xy(2, 0), xy(3, 0)}, {xy(0, 3), xy(3, 0)}, {xy(0, 0), xy(1, 3)},
		{xy(0, 0), xy(2, 0), xy(0, 2)}, {xy(0, 0), xy(1, 0), xy(1, 1), xy(0, 1)}, {xy(1, 1), xy(5, 5)}, {xy(2, 1), xy(5, 5)}, {xy(2, 2), xy(0, 2), xy(2, 0)}, {xy(0, 0), xy(4, 2), xy(2, 4)},
		grid(5, 4, xy(-2, -2)), manyPoints(impl.MaxPoints), opposite(manyPoints(impl.MaxPoints)), manyPoints(7), quarterTurn(manyPoints(5)), {xy(-1000, -1000), xy(1000, 1000)}, {xy(-1000, 1000), xy(1000, -1000)},
		{xy(-1000, -1000), xy(1000, -1000), xy(1000, 1000), xy(-1000, 1000)}, {xy(-500, -500), xy(500, -500), xy(500, 500), xy(-500, 500)},
	}
	for _, a := range some {
		for _, b := range some {
			f(a, b)
		}
	}
	r := fixedRandom()
	lists := someLists()
	for _, a := range lists {
		f(a, lists[r.IntN(len(lists))])
		f(a, moved(randomList(r, impl.MaxPoints), randomPoint(r, 4)))
		f(scatter(r, 5, 4), scatter(r, 5, 4))
		f(scatter(r, 500, impl.MaxPoints), scatter(r, 500, impl.MaxPoints))
	}
}

// scatter returns up to n points, at least one, with coordinates in -most..most.
func scatter(r *rand.Rand, most int, n int) []impl.Point {
	list := []impl.Point{randomPoint(r, most)}
	for range r.IntN(n) {
		list = append(list, randomPoint(r, most))
	}
	return list
}

// fullPairs calls f for the pairs of shapePairs none of which is empty.
func fullPairs(f func(a []impl.Point, b []impl.Point)) {
	shapePairs(func(a, b []impl.Point) {
		if min(len(a), len(b)) > 0 {
			f(a, b)
		}
	})
}

func TestP114MinkowskiSumsAreCommutative(t *testing.T) {
	sizes, failed := map[int]int{}, 0
	shapePairs(func(a, b []impl.Point) {
		var got []impl.Point
		var ok bool
		keepsPoints(t, "MinkowskiSum", a, func(a []impl.Point) {
			keepsArgument(t, "MinkowskiSum", b, func(b []impl.Point) []impl.Point {
				got, ok = impl.MinkowskiSum(a, b)
				return slices.Clone(got)
			})
		})
		want, valid := wantSum(a, b)
		if ok != valid || !slices.Equal(got, want) || !ok && got != nil {
			t.Fatalf("MinkowskiSum(%v, %v) = %v, %v, want %v, %v", a, b, got, ok, want, valid)
		}
		if other, same := impl.MinkowskiSum(b, a); same != ok || !slices.Equal(other, got) {
			t.Fatalf("MinkowskiSum(%v, %v) = %v, %v, exchanged %v, %v", a, b, got, ok, other, same)
		}
		if ok && len(got) <= impl.MaxPoints {
			sameList(t, "Hull of MinkowskiSum", impl.Hull(got), got)
		}
		sizes[len(got)]++
		if !ok {
			failed++
		}
	})
	for n := range 15 {
		if sizes[n] < 20 {
			t.Errorf("only %d sums have %d vertices", sizes[n], n)
		}
	}
	if failed < 300 {
		t.Errorf("only %d pairs have no sum", failed)
	}
}

func TestP114SumsShareNoMemory(t *testing.T) {
	shapePairs(func(a, b []impl.Point) {
		keepsArgument(t, "MinkowskiSum", a, func(a []impl.Point) []impl.Point { s, _ := impl.MinkowskiSum(a, b); return s })
		keepsArgument(t, "MinkowskiSum", b, func(b []impl.Point) []impl.Point { s, _ := impl.MinkowskiSum(a, b); return s })
	})
}

func TestP114AllSmallLists(t *testing.T) {
	var lists [][]impl.Point
	for n := range 4 {
		sequences(grid(3, 2, xy(0, -1)), n, func(p []impl.Point) { lists = append(lists, p) })
	}
	for _, a := range lists {
		for _, b := range lists {
			got, ok := impl.MinkowskiSum(a, b)
			if want, valid := wantSum(a, b); ok != valid || !slices.Equal(got, want) {
				t.Fatalf("MinkowskiSum(%v, %v) = %v, %v, want %v, %v", a, b, got, ok, want, valid)
			}
			if meet := impl.HullsMeet(a, b); meet != wantMeet(a, b) {
				t.Fatalf("HullsMeet(%v, %v) = %v", a, b, meet)
			}
		}
	}
}

func TestP114OrdinarySums(t *testing.T) {
	triangle := []impl.Point{xy(0, 0), xy(2, 0), xy(0, 2)}
	square := []impl.Point{xy(0, 0), xy(1, 0), xy(1, 1), xy(0, 1)}
	for name, c := range map[string]struct{ a, b, want []impl.Point }{
		"two points":            {[]impl.Point{xy(1, 2)}, []impl.Point{xy(3, -4)}, []impl.Point{xy(4, -2)}},
		"equal points":          {[]impl.Point{xy(1, 2), xy(1, 2)}, []impl.Point{xy(1, 2), xy(1, 2), xy(1, 2)}, []impl.Point{xy(2, 4)}},
		"a point and a segment": {[]impl.Point{xy(1, 2)}, []impl.Point{xy(5, 5), xy(0, 0), xy(3, 3)}, []impl.Point{xy(1, 2), xy(6, 7)}},
		"parallel segments":     {[]impl.Point{xy(0, 0), xy(1, 2)}, []impl.Point{xy(3, 6), xy(0, 0)}, []impl.Point{xy(0, 0), xy(4, 8)}},
		"upright segments":      {[]impl.Point{xy(0, 5), xy(0, -5)}, []impl.Point{xy(3, 0), xy(3, 1)}, []impl.Point{xy(3, -5), xy(3, 6)}},
		"other segments":        {[]impl.Point{xy(0, 0), xy(3, 1)}, []impl.Point{xy(0, 0), xy(1, 3)}, []impl.Point{xy(0, 0), xy(3, 1), xy(4, 4), xy(1, 3)}},
		"level and upright":     {[]impl.Point{xy(0, 0), xy(3, 0)}, []impl.Point{xy(0, 0), xy(0, 2)}, []impl.Point{xy(0, 0), xy(3, 0), xy(3, 2), xy(0, 2)}},
		"falling and upright":   {[]impl.Point{xy(0, 3), xy(3, 0)}, []impl.Point{xy(0, 0), xy(0, 2)}, []impl.Point{xy(0, 3), xy(3, 0), xy(3, 2), xy(0, 5)}},
		"a triangle":            {triangle, square, []impl.Point{xy(0, 0), xy(3, 0), xy(3, 1), xy(1, 3), xy(0, 3)}},
		"a parallel segment":    {triangle, []impl.Point{xy(0, 0), xy(1, 0)}, []impl.Point{xy(0, 0), xy(3, 0), xy(1, 2), xy(0, 2)}},
		"another segment":       {triangle, []impl.Point{xy(0, 0), xy(1, 1)}, []impl.Point{xy(0, 0), xy(2, 0), xy(3, 1), xy(1, 3), xy(0, 2)}},
		"opposite triangles":    {triangle, opposite(triangle), []impl.Point{xy(-2, 0), xy(0, -2), xy(2, -2), xy(2, 0), xy(0, 2), xy(-2, 2)}},
		"with itself":           {square, square, []impl.Point{xy(0, 0), xy(2, 0), xy(2, 2), xy(0, 2)}},
		"points inside":         {append([]impl.Point{xy(1, 1)}, triangle...), append([]impl.Point{xy(1, 0)}, square...), []impl.Point{xy(0, 0), xy(3, 0), xy(3, 1), xy(1, 3), xy(0, 3)}},
		"nothing":               {nil, nil, nil},
		"nothing to add":        {triangle, []impl.Point{}, nil},
		"nothing to add to":     {nil, triangle, nil},
		"the limits":            {[]impl.Point{xy(-500, -1000), xy(500, 1000)}, []impl.Point{xy(-500, 0), xy(500, 0)}, []impl.Point{xy(-1000, -1000), xy(0, -1000), xy(1000, 1000), xy(0, 1000)}},
		"beyond the limits":     {[]impl.Point{xy(-500, -1000), xy(500, 1000)}, []impl.Point{xy(-500, 0), xy(501, 0)}, nil},
		"too high":              {[]impl.Point{xy(0, 0), xy(5, 1000)}, []impl.Point{xy(0, 0), xy(9, 1)}, nil},
		"too far left":          {[]impl.Point{xy(-1000, 0)}, []impl.Point{xy(5, 0), xy(-1, 0)}, nil},
		"too low":               {[]impl.Point{xy(0, 0), xy(7, -1), xy(3, 4)}, []impl.Point{xy(0, -1000)}, nil},
		"back inside":           {[]impl.Point{xy(1000, 1000)}, []impl.Point{xy(-1000, -1000)}, []impl.Point{xy(0, 0)}},
	} {
		got, ok := impl.MinkowskiSum(c.a, c.b)
		if ok != (c.want != nil) || !slices.Equal(got, c.want) || !ok && got != nil {
			t.Errorf("%s: MinkowskiSum(%v, %v) = %v, %v, want %v", name, c.a, c.b, got, ok, c.want)
		}
	}
}

func TestP114SumsWithManyVertices(t *testing.T) {
	for n := 3; n <= impl.MaxPoints; n++ {
		for m := 3; m <= impl.MaxPoints; m++ {
			a, b := manyPoints(n), quarterTurn(manyPoints(m))
			got, ok := impl.MinkowskiSum(a, b)
			if want, _ := wantSum(a, b); !ok || !slices.Equal(got, want) {
				t.Fatalf("MinkowskiSum(%v, %v) = %v, %v, want %v", a, b, got, ok, want)
			}
			// All points are vertices, and no two sides have the same direction.
			if len(got) != n+m {
				t.Fatalf("MinkowskiSum of %d and %d points has %d vertices", n, m, len(got))
			}
		}
	}
}

func TestP114P117P119InvalidLists(t *testing.T) {
	for _, bad := range badLists() {
		for _, list := range [][]impl.Point{nil, {xy(0, 0)}, {xy(0, 0), xy(5, 0), xy(0, 5)}, grid(5, 4, xy(-2, -2)), bad} {
			for _, c := range [][2][]impl.Point{{bad, list}, {list, bad}} {
				if s, ok := impl.MinkowskiSum(c[0], c[1]); ok || s != nil {
					t.Errorf("MinkowskiSum(%v, %v) = %v, %v", c[0], c[1], s, ok)
				}
				if impl.HullsMeet(c[0], c[1]) {
					t.Errorf("HullsMeet(%v, %v) holds", c[0], c[1])
				}
			}
		}
	}
}

// directions returns directions: 0, 0, small ones, ones at the limits, and others.
func directions() []impl.Point {
	return append(grid(3, 3, xy(-1, -1)), append(somePoints(), xy(2, -1), xy(-3, 2), xy(1, 3))...)
}

func TestP115SupportValuesAddUp(t *testing.T) {
	count := 0
	fullPairs(func(a, b []impl.Point) {
		s, ok := sumOf(a, b)
		if !ok {
			return
		}
		count++
		for _, d := range directions() {
			x, y := impl.SupportValue(a, d), impl.SupportValue(b, d)
			if n := impl.SupportValue(s, d); n != x+y || n != wantSupportValue(allSums(a, b), d) {
				t.Fatalf("SupportValue of MinkowskiSum(%v, %v) in %v is %d, but %d and %d", a, b, d, n, x, y)
			}
		}
	})
	if count < 1000 {
		t.Errorf("only %d pairs have a sum", count)
	}
}

func TestP118SupportValuesBelongToTheHull(t *testing.T) {
	for _, list := range someLists() {
		h := impl.Hull(list)
		for _, d := range directions() {
			var n int
			keepsPoints(t, "SupportValue", list, func(list []impl.Point) { n = impl.SupportValue(list, d) })
			if want := wantSupportValue(list, d); n != want || impl.SupportValue(h, d) != want {
				t.Fatalf("SupportValue(%v, %v) = %d, %d for the hull, want %d", list, d, n, impl.SupportValue(h, d), want)
			}
			if m := impl.SupportValue(list, xy(-d.X, -d.Y)); m < -n {
				t.Fatalf("SupportValue(%v, %v) = %d, in the opposite direction %d", list, d, n, m)
			}
		}
	}
}

func TestP118OrdinarySupportValues(t *testing.T) {
	list := []impl.Point{xy(-5, -5), xy(0, 0), xy(3, 0), xy(3, 4), xy(1, 4)}
	for _, c := range []struct {
		list []impl.Point
		d    impl.Point
		want int
	}{
		{list, xy(0, 0), 0}, {list, xy(1, 0), 3}, {list, xy(-1, 0), 5}, {list, xy(0, 1), 4}, {list, xy(0, -1), 5}, {list, xy(1, 1), 7}, {list, xy(1, -1), 3}, {list, xy(-2, 1), 5},
		{[]impl.Point{xy(-5, -5)}, xy(1, 1), -10}, {[]impl.Point{xy(-5, -5), xy(-5, -5)}, xy(2, 1), -15}, {[]impl.Point{xy(-5, -5), xy(-3, -9)}, xy(1, 1), -10}, {[]impl.Point{xy(2, -2), xy(-2, 2)}, xy(1, 1), 0},
		{[]impl.Point{xy(1000, 1000)}, xy(1000, 1000), 2000000}, {[]impl.Point{xy(1000, 1000)}, xy(-1000, -1000), -2000000},
		{nil, xy(1, 1), 0}, {[]impl.Point{}, xy(0, 0), 0},
	} {
		if n := impl.SupportValue(c.list, c.d); n != c.want {
			t.Errorf("SupportValue(%v, %v) = %d, want %d", c.list, c.d, n, c.want)
		}
	}
}

func TestP115P118InvalidArguments(t *testing.T) {
	for _, bad := range badPoints() {
		for _, list := range [][]impl.Point{nil, {xy(1, 1)}, {xy(-1, -1)}, {xy(1, 1), xy(5, 0), xy(0, 5), xy(-7, -7)}, {bad}} {
			if n := impl.SupportValue(list, bad); n != 0 {
				t.Errorf("SupportValue(%v, %v) = %d", list, bad, n)
			}
		}
	}
	for _, list := range badLists() {
		for _, d := range directions() {
			if n := impl.SupportValue(list, d); n != 0 {
				t.Errorf("SupportValue(%v, %v) = %d", list, d, n)
			}
		}
	}
}

func TestP116AddingOnePointIsAMove(t *testing.T) {
	moves, failed := 0, 0
	for _, list := range someLists() {
		for _, p := range []impl.Point{xy(0, 0), xy(3, -2), xy(-999, 1), xy(1000, 1000)} {
			h := impl.Hull(list)
			want := moved(h, p)
			ok := len(h) > 0 && impl.SortPoints(want) != nil
			if !ok {
				want = nil
				failed++
			}
			moves++
			for _, one := range [][]impl.Point{{p}, {p, p}} {
				if got, valid := impl.MinkowskiSum(list, one); valid != ok || !slices.Equal(got, want) {
					t.Fatalf("MinkowskiSum(%v, %v) = %v, %v, want %v", list, one, got, valid, want)
				}
			}
		}
	}
	if min(failed, moves-failed) < 1000 {
		t.Errorf("only %d of %d moves fail", failed, moves)
	}
}

func TestP117SumsAreAtLeastAsLarge(t *testing.T) {
	same, larger := 0, 0
	fullPairs(func(a, b []impl.Point) {
		s, ok := sumOf(a, b)
		if !ok {
			return
		}
		n, m := impl.HullArea(s), impl.HullArea(a)+impl.HullArea(b)
		if n < m || n < 0 {
			t.Fatalf("HullArea of MinkowskiSum(%v, %v) is %d, but %d for both", a, b, n, m)
		}
		if n == m {
			same++
		} else {
			larger++
		}
	})
	if min(same, larger) < 100 {
		t.Errorf("only %d sums are as large and %d larger", same, larger)
	}
}

// meetCase is a pair of lists with the result of HullsMeet.
type meetCase struct {
	a, b []impl.Point
	want bool
}

// namedPairs returns pairs whose hulls touch, cross, are inside of each other, or apart.
func namedPairs() map[string]meetCase {
	triangle := []impl.Point{xy(0, 0), xy(2, 0), xy(0, 2)}
	square := []impl.Point{xy(0, 0), xy(4, 0), xy(4, 4), xy(0, 4)}
	line := []impl.Point{xy(0, 0), xy(4, 2)}
	return map[string]meetCase{
		"nothing":                {nil, nil, false},
		"nothing and a point":    {nil, []impl.Point{xy(0, 0)}, false},
		"a point and nothing":    {[]impl.Point{xy(0, 0)}, []impl.Point{}, false},
		"equal points":           {[]impl.Point{xy(3, 4)}, []impl.Point{xy(3, 4), xy(3, 4)}, true},
		"different points":       {[]impl.Point{xy(3, 4)}, []impl.Point{xy(3, 5)}, false},
		"opposite points":        {[]impl.Point{xy(3, 4)}, []impl.Point{xy(-3, -4)}, false},
		"a point of a segment":   {line, []impl.Point{xy(2, 1)}, true},
		"an end of a segment":    {line, []impl.Point{xy(4, 2)}, true},
		"a point beside":         {line, []impl.Point{xy(2, 2)}, false},
		"a point behind an end":  {line, []impl.Point{xy(6, 3)}, false},
		"a point before an end":  {line, []impl.Point{xy(-2, -1)}, false},
		"segments that cross":    {line, []impl.Point{xy(0, 2), xy(4, 0)}, true},
		"that cross, a fraction": {line, []impl.Point{xy(0, 1), xy(1, 0)}, true},
		"segments that touch":    {line, []impl.Point{xy(2, 1), xy(2, 9)}, true},
		"segments with an end":   {line, []impl.Point{xy(4, 2), xy(2, 9)}, true},
		"parallel segments":      {line, []impl.Point{xy(0, 1), xy(4, 3)}, false},
		"one line, apart":        {line, []impl.Point{xy(6, 3), xy(8, 4)}, false},
		"one line, an end":       {line, []impl.Point{xy(4, 2), xy(8, 4)}, true},
		"one line, an overlap":   {line, []impl.Point{xy(2, 1), xy(8, 4)}, true},
		"segments apart":         {line, []impl.Point{xy(3, 0), xy(4, 1)}, false},
		"a side in a point":      {triangle, []impl.Point{xy(1, 1), xy(5, 5)}, true},
		"just beside the side":   {triangle, []impl.Point{xy(2, 1), xy(5, 5)}, false},
		"a vertex":               {triangle, []impl.Point{xy(2, 0), xy(5, 0), xy(4, 3)}, true},
		"just beside the vertex": {triangle, []impl.Point{xy(3, 0), xy(5, 0), xy(4, 3)}, false},
		"along a side":           {square, []impl.Point{xy(4, 1), xy(4, 3), xy(7, 2)}, true},
		"along half of a side":   {square, []impl.Point{xy(2, 4), xy(6, 4), xy(2, 7)}, true},
		"a side and a segment":   {square, []impl.Point{xy(-3, 0), xy(9, 0)}, true},
		"one unit apart":         {square, []impl.Point{xy(5, 0), xy(9, 0), xy(9, 4), xy(5, 4)}, false},
		"inside":                 {square, []impl.Point{xy(1, 1), xy(2, 1), xy(1, 2)}, true},
		"around":                 {[]impl.Point{xy(1, 1), xy(2, 1), xy(1, 2)}, square, true},
		"a point inside":         {square, []impl.Point{xy(2, 2)}, true},
		"a segment inside":       {[]impl.Point{xy(1, 1), xy(3, 2)}, square, true},
		"equal squares":          {square, reversed(square), true},
		"a cross":                {[]impl.Point{xy(-5, 1), xy(5, 1), xy(5, 2), xy(-5, 2)}, []impl.Point{xy(1, -5), xy(2, -5), xy(2, 5), xy(1, 5)}, true},
		"only the hull meets":    {[]impl.Point{xy(0, 0), xy(9, 0), xy(0, 9)}, []impl.Point{xy(4, 4), xy(9, 9)}, true},
		"no point in the other":  {[]impl.Point{xy(-9, 0), xy(9, 0)}, []impl.Point{xy(0, -9), xy(1, 9), xy(1, -9)}, true},
		"the limits":             {[]impl.Point{xy(-1000, -1000), xy(1000, 999)}, []impl.Point{xy(-1000, -999), xy(1000, 1000)}, false},
		"the limits, a crossing": {[]impl.Point{xy(-1000, -1000), xy(1000, 999)}, []impl.Point{xy(-999, -1000), xy(999, 1000)}, true},
		"the corners":            {[]impl.Point{xy(-1000, -1000)}, []impl.Point{xy(1000, 1000)}, false},
	}
}

func TestP119OrdinaryHulls(t *testing.T) {
	for name, c := range namedPairs() {
		if got := impl.HullsMeet(c.a, c.b); got != c.want || wantMeet(c.a, c.b) != c.want {
			t.Errorf("%s: HullsMeet(%v, %v) = %v", name, c.a, c.b, got)
		}
	}
}

func TestP119CommonPointsMakeHullsMeet(t *testing.T) {
	yes, no := 0, 0
	shapePairs(func(a, b []impl.Point) {
		var got bool
		keepsPoints(t, "HullsMeet", a, func(a []impl.Point) {
			keepsPoints(t, "HullsMeet", b, func(b []impl.Point) { got = impl.HullsMeet(a, b) })
		})
		if got != wantMeet(a, b) || got != impl.HullsMeet(b, a) {
			t.Fatalf("HullsMeet(%v, %v) = %v, exchanged %v", a, b, got, impl.HullsMeet(b, a))
		}
		if got {
			yes++
		} else {
			no++
		}
		for i := range min(len(a), impl.MaxPoints-len(b)) {
			if with := append(slices.Clone(b), a[i]); !impl.HullsMeet(a, with) || !impl.HullsMeet(with, a) {
				t.Fatalf("HullsMeet(%v, %v) fails", a, with)
			}
		}
	})
	if min(yes, no) < 1000 {
		t.Errorf("only %d hulls meet and %d do not", yes, no)
	}
}

func TestP119HullsThatOnlyTouch(t *testing.T) {
	touch := 0
	fullPairs(func(a, b []impl.Point) {
		// On its way to the right, b touches a for the last time when its first X is the last one of a.
		for n := range 12 {
			b := moved(b, xy(n, 0))
			if impl.SortPoints(b) == nil {
				return
			}
			if got := impl.HullsMeet(a, b); got != wantMeet(a, b) {
				t.Fatalf("HullsMeet(%v, %v) = %v", a, b, got)
			}
			if smallestX(b) == -smallestX(opposite(a)) && impl.HullsMeet(a, b) {
				touch++
			}
		}
	})
	if touch < 100 {
		t.Errorf("only %d hulls touch", touch)
	}
}

// smallestX returns the smallest X of points.
func smallestX(list []impl.Point) int {
	return list[smallest(list)].X
}

func TestP120HullsThatDoNotMeetAreSeparated(t *testing.T) {
	apart := 0
	fullPairs(func(a, b []impl.Point) {
		if impl.HullsMeet(a, b) {
			return
		}
		apart++
		for _, c := range [][2][]impl.Point{{a, b}, {b, a}} {
			h := impl.Hull(c[1])
			for _, p := range c[0] {
				if inHull(h, p) || len(h) >= 3 && impl.LocateConvex(h, p) != -1 {
					t.Fatalf("HullsMeet(%v, %v) fails, but %v is in both hulls", a, b, p)
				}
			}
		}
	})
	if apart < 1000 {
		t.Errorf("only %d hulls are apart", apart)
	}
}

func TestP121SeparatedSupportsKeepHullsApart(t *testing.T) {
	count := 0
	fullPairs(func(a, b []impl.Point) {
		// One list is moved until it is just to the right of the other one.
		right := moved(b, xy(impl.SupportValue(a, xy(1, 0))+1-smallestX(b), 0))
		if impl.SortPoints(right) == nil {
			return
		}
		count++
		if impl.HullsMeet(a, right) || impl.HullsMeet(right, a) {
			t.Fatalf("HullsMeet(%v, %v) holds", a, right)
		}
	})
	if count < 1000 {
		t.Errorf("only %d pairs are separated", count)
	}
}

func TestP146AddingPointsToThemselvesDoublesThem(t *testing.T) {
	count := 0
	for _, list := range append(someLists(), allPolygons()...) {
		s, ok := sumOf(list, list)
		if want, valid := wantSum(list, list); ok != valid || ok && !slices.Equal(s, want) {
			t.Fatalf("MinkowskiSum(%v) with itself = %v, want %v", list, s, want)
		}
		if !ok {
			continue
		}
		count++
		sameList(t, "MinkowskiSum with itself", s, times(impl.Hull(list), 2))
		if n, m := impl.HullArea(s), impl.HullArea(list); n != 4*m {
			t.Fatalf("HullArea of MinkowskiSum(%v) with itself is %d, but %d of the points", list, n, m)
		}
	}
	if count < 500 {
		t.Errorf("only %d lists can be doubled", count)
	}
}
