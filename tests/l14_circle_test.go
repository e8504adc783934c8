package tests

import (
	"math"
	"math/big"
	"slices"
	"testing"

	"loop.example/planargeometry/impl"
)

// exactCircle is a circle with its center and its squared radius.
type exactCircle struct {
	x      *big.Rat
	y      *big.Rat
	square *big.Rat
}

// circleThrough returns the circle that one, two or three points determine; nil if they determine none.
func circleThrough(p []impl.Point) *exactCircle {
	c := &exactCircle{}
	switch len(p) {
	case 1:
		c.x, c.y = big1(p[0].X), big1(p[0].Y)
	case 2:
		if p[0] == p[1] {
			return nil
		}
		c.x, c.y = exact(p[0].X+p[1].X, 2), exact(p[0].Y+p[1].Y, 2)
	case 3:
		// All angles are less than 90 degrees if each square is less than the sum of the other ones.
		a, b, d := squareOf(p[1], p[2]), squareOf(p[2], p[0]), squareOf(p[0], p[1])
		if crossOf(p[0], p[1], p[2]) == 0 || a >= b+d || b >= a+d || d >= a+b {
			return nil
		}
		c.x, c.y = centerOf(p[0], p[1], p[2])
	default:
		return nil
	}
	c.square = squareTo(c.x, c.y, p[0])
	return c
}

// circleFor returns the circle that indices determine for a valid list; nil if they determine none.
func circleFor(list []impl.Point, s []int) *exactCircle {
	var p []impl.Point
	for k, i := range s {
		if i < 0 || i >= len(list) || k > 0 && s[k-1] >= i {
			return nil
		}
		p = append(p, list[i])
	}
	return circleThrough(p)
}

// hasAll reports whether all points are in a circle or on it.
func (c *exactCircle) hasAll(list []impl.Point) bool {
	for _, p := range list {
		if squareTo(c.x, c.y, p).Cmp(c.square) > 0 {
			return false
		}
	}
	return true
}

// supportSets returns the ascending lists of up to most indices that are less
// than a limit, the shortest ones first, then in lexicographic order.
func supportSets(limit int, most int) [][]int {
	sets, from := [][]int{nil}, 0
	for range most {
		to := len(sets)
		for _, s := range sets[from:to] {
			next := 0
			if len(s) > 0 {
				next = s[len(s)-1] + 1
			}
			for i := next; i < limit; i++ {
				sets = append(sets, append(slices.Clone(s), i))
			}
		}
		from = to
	}
	return sets
}

// wantSupport returns the indices that determine the smallest of all circles
// that have all points: the first ones of those of supportSets.
func wantSupport(list []impl.Point) []int {
	var support []int
	var best *exactCircle
	for _, s := range supportSets(len(list), 3) {
		c := circleFor(list, s)
		if c != nil && (best == nil || c.square.Cmp(best.square) < 0) && c.hasAll(list) {
			support, best = s, c
		}
	}
	return support
}

// circleLists returns lists with points on one circle, right angles, equal points and others.
func circleLists() [][]impl.Point {
	lists := [][]impl.Point{
		nil, {}, {xy(3, 4)}, {xy(1, 1), xy(1, 1), xy(1, 1)}, {xy(0, 0), xy(4, 0), xy(0, 4)}, {xy(0, 0), xy(0, 0), xy(4, 0), xy(4, 0)},
		{xy(0, 0), xy(4, 0), xy(4, 4), xy(0, 4)}, {xy(0, 0), xy(1, 1), xy(2, 2), xy(9, 9), xy(4, 4)}, make([]impl.Point, impl.MaxPoints),
		pointsOnCircle(xy(0, 0), 40), pointsOnCircle(xy(-3, 900), 4), reversed(pointsOnCircle(xy(1, 1), 1)), manyPoints(impl.MaxPoints), grid(5, 4, xy(-2, -2)),
		{xy(-1000, -1000), xy(1000, -1000), xy(1000, 1000), xy(-1000, 1000)}, {xy(-1000, -1000), xy(1000, 999), xy(-999, 1000)}, {xy(-1000, 1000), xy(1000, 1000), xy(1, -1000)},
	}
	r := fixedRandom()
	for range 400 {
		lists = append(lists, randomList(r, 5), largeList(r, 5))
		circle := append(pointsOnCircle(xy(1, -1), 1), xy(1, -1), xy(0, 0))
		r.Shuffle(len(circle), func(i, k int) { circle[i], circle[k] = circle[k], circle[i] })
		lists = append(lists, circle[:r.IntN(7)])
	}
	for range 20 {
		lists = append(lists, randomList(r, impl.MaxPoints), largeList(r, impl.MaxPoints), pointsOnLine(r))
	}
	return lists
}

func TestP61EnclosingCirclesHaveAllPoints(t *testing.T) {
	count := map[int]int{}
	for _, list := range circleLists() {
		array := append(slices.Clone(list), xy(7, 7), xy(8, 8))
		before := slices.Clone(array)
		s := impl.EnclosingSupport(array[:len(list)])
		if want := wantSupport(list); !slices.Equal(s, want) {
			t.Fatalf("EnclosingSupport(%v) = %v, want %v", list, s, want)
		}
		if got := impl.CheckEnclosing(array[:len(list)], s); got != (len(list) > 0) {
			t.Fatalf("CheckEnclosing(%v, %v) = %v", list, s, got)
		}
		if allEqual := len(inOrder(list)) == 1; allEqual != (len(s) == 1) {
			t.Fatalf("EnclosingSupport(%v) = %v", list, s)
		}
		sameList(t, "the argument of EnclosingSupport", array, before)
		count[len(s)]++
	}
	if min(count[1], count[2], count[3]) < 50 {
		t.Errorf("too few circles of a kind: %v", count)
	}
}

func TestP61OrdinaryCircles(t *testing.T) {
	for name, c := range map[string]struct {
		list []impl.Point
		want []int
	}{
		"nothing":                {nil, nil},
		"one point":              {[]impl.Point{xy(3, 4)}, []int{0}},
		"equal points":           {[]impl.Point{xy(3, 4), xy(3, 4), xy(3, 4)}, []int{0}},
		"two points":             {[]impl.Point{xy(3, 4), xy(-3, 4)}, []int{0, 1}},
		"two points, twice":      {[]impl.Point{xy(3, 4), xy(3, 4), xy(-3, 4), xy(-3, 4)}, []int{0, 2}},
		"points on one line":     {[]impl.Point{xy(2, 2), xy(3, 3), xy(0, 0), xy(5, 5), xy(1, 1)}, []int{2, 3}},
		"an obtuse angle":        {[]impl.Point{xy(0, 0), xy(4, 0), xy(2, 1)}, []int{0, 1}},
		"a right angle":          {[]impl.Point{xy(0, 0), xy(4, 0), xy(0, 4)}, []int{1, 2}},
		"another right angle":    {[]impl.Point{xy(0, 0), xy(4, 0), xy(2, 2)}, []int{0, 1}},
		"acute angles":           {[]impl.Point{xy(0, 0), xy(4, 0), xy(2, 3)}, []int{0, 1, 2}},
		"slightly acute":         {[]impl.Point{xy(-100, 0), xy(100, 0), xy(0, 101)}, []int{0, 1, 2}},
		"slightly obtuse":        {[]impl.Point{xy(-100, 0), xy(100, 0), xy(0, 99)}, []int{0, 1}},
		"a square":               {[]impl.Point{xy(0, 0), xy(4, 0), xy(4, 4), xy(0, 4)}, []int{0, 2}},
		"a pentagon on a circle": {[]impl.Point{xy(5, 0), xy(3, 4), xy(-4, 3), xy(-4, -3), xy(3, -4)}, []int{0, 1, 3}},
		"a diameter at the end":  {[]impl.Point{xy(5, 0), xy(3, 4), xy(0, 5), xy(-3, -4)}, []int{1, 3}},
		"a point inside of it":   {[]impl.Point{xy(1, 1), xy(0, 0), xy(4, 0), xy(2, 3)}, []int{1, 2, 3}},
		"three of four":          {[]impl.Point{xy(0, 0), xy(2, 1), xy(4, 0), xy(2, 4), xy(2, 2)}, []int{0, 2, 3}},
		"the limits":             {[]impl.Point{xy(-1000, -1000), xy(1000, -1000), xy(1000, 1000)}, []int{0, 2}},
	} {
		got := impl.EnclosingSupport(c.list)
		if !slices.Equal(got, c.want) || !slices.Equal(wantSupport(c.list), c.want) {
			t.Errorf("%s: EnclosingSupport(%v) = %v, want %v", name, c.list, got, c.want)
		}
	}
}

// sameRats reports whether a point with valid fractions has some coordinates.
func sameRats(p impl.RatPoint, x *big.Rat, y *big.Rat) bool {
	if !impl.ValidRat(p.X) || !impl.ValidRat(p.Y) {
		return false
	}
	return fromRat(p.X).Cmp(x) == 0 && fromRat(p.Y).Cmp(y) == 0
}

// checkCircle fails the test unless CheckEnclosing and CircleCenter are right for indices. It returns whether they are accepted.
func checkCircle(t *testing.T, list []impl.Point, s []int) bool {
	t.Helper()
	c := circleFor(list, s)
	got := impl.CheckEnclosing(list, s)
	if got != (c != nil && c.hasAll(list)) {
		t.Fatalf("CheckEnclosing(%v, %v) = %v", list, s, got)
	}
	center, ok := impl.CircleCenter(list, s)
	if ok != (c != nil) || c == nil && center != (impl.RatPoint{}) || c != nil && !sameRats(center, c.x, c.y) {
		t.Fatalf("CircleCenter(%v, %v) = %v, %v", list, s, center, ok)
	}
	return got
}

func TestP62TheSmallestCircleIsUnique(t *testing.T) {
	accepted := 0
	for n, list := range circleLists() {
		best, found := impl.CircleCenter(list, impl.EnclosingSupport(list))
		if found != (len(list) > 0) {
			t.Fatalf("no center for %v", list)
		}
		if n%5 > 0 && len(list) > 6 { // all indices are many
			continue
		}
		before := slices.Clone(list)
		for _, s := range supportSets(len(list), 4) {
			kept := slices.Clone(s)
			if checkCircle(t, list, s) {
				accepted++
				if center, ok := impl.CircleCenter(list, s); !ok || center != best {
					t.Fatalf("CheckEnclosing(%v) accepts %v with the center %v, not %v", list, s, center, best)
				}
			}
			if !slices.Equal(s, kept) || !slices.Equal(list, before) {
				t.Fatalf("CheckEnclosing or CircleCenter changes %v, %v", before, kept)
			}
		}
	}
	if accepted < 1000 {
		t.Errorf("only %d accepted", accepted)
	}
}

func TestP62IndicesOfAnyOrder(t *testing.T) {
	for _, list := range [][]impl.Point{
		{xy(0, 0), xy(4, 0), xy(2, 3), xy(4, 0)}, {xy(0, 0), xy(4, 0), xy(0, 4), xy(4, 4)}, {xy(5, 0), xy(3, 4), xy(-4, 3), xy(-4, -3), xy(3, -4)},
		{xy(1, 1), xy(1, 1), xy(1, 1)}, {xy(0, 0), xy(2, 2), xy(4, 4)}, {},
	} {
		indexLists(len(list), 4, func(s []int) { checkCircle(t, list, s) })
	}
}

func TestP62InvalidIndices(t *testing.T) {
	list := []impl.Point{xy(0, 0), xy(4, 0), xy(2, 3), xy(2, 1)}
	for _, s := range [][]int{
		nil, {}, {-1}, {4}, {0, 4}, {-1, 0}, {0, 1, 4}, {-1, 0, 1}, {0, 1, 2, 3}, {0, 0}, {1, 0}, {0, 0, 1}, {0, 1, 1}, {2, 1, 0}, {0, 2, 1}, {1, 0, 2}, {1, 1, 1},
		{math.MinInt}, {math.MaxInt}, {0, math.MaxInt}, {math.MinInt, 0, 1}, {0, 1, math.MaxInt}, {math.MinInt, 1, math.MaxInt}, slices.Repeat([]int{0}, 1000),
	} {
		if center, ok := impl.CircleCenter(list, s); ok || center != (impl.RatPoint{}) || impl.CheckEnclosing(list, s) {
			t.Errorf("CircleCenter(%v) = %v, %v, CheckEnclosing %v", s, center, ok, impl.CheckEnclosing(list, s))
		}
	}
	if !impl.CheckEnclosing(list, []int{0, 1, 2}) || impl.CheckEnclosing(list, []int{0, 1}) || impl.CheckEnclosing(nil, []int{0}) || impl.CheckEnclosing(nil, nil) {
		t.Error("CheckEnclosing of valid indices, or of no points")
	}
}

func TestP61P62P63InvalidLists(t *testing.T) {
	for _, list := range badLists() {
		if s := impl.EnclosingSupport(list); s != nil {
			t.Errorf("EnclosingSupport(%v) = %v", list, s)
		}
		for _, s := range [][]int{nil, {0}, {0, 1}, {1, 2}, {0, 1, 2}, {1, 2, 3}, {0, 20}} {
			if center, ok := impl.CircleCenter(list, s); ok || center != (impl.RatPoint{}) || impl.CheckEnclosing(list, s) {
				t.Errorf("CircleCenter(%v, %v) = %v, %v, CheckEnclosing %v", list, s, center, ok, impl.CheckEnclosing(list, s))
			}
		}
	}
	most := slices.Repeat([]impl.Point{xy(1000, -1000)}, impl.MaxPoints)
	if !slices.Equal(impl.EnclosingSupport(most), []int{0}) || !impl.CheckEnclosing(most, []int{19}) {
		t.Error("MaxPoints points are rejected")
	}
}

func TestP63CentersHaveTheSameDistanceFromAllPointsOfTheSupport(t *testing.T) {
	for _, list := range circleLists() {
		s := impl.EnclosingSupport(list)
		center, _ := impl.CircleCenter(list, s)
		if len(s) < 2 {
			continue
		}
		two, first := big1(2), (*big.Rat)(nil)
		for _, i := range s {
			dx := product(two, difference(fromRat(center.X), big1(list[i].X)))
			dy := product(two, difference(fromRat(center.Y), big1(list[i].Y)))
			square := sum(product(dx, dx), product(dy, dy))
			if first == nil {
				first = square
			}
			if square.Cmp(first) != 0 || square.Sign() == 0 {
				t.Fatalf("CircleCenter(%v, %v) = %v is not equally far from all", list, s, center)
			}
		}
	}
}

// ratPoint returns a point with fractions.
func ratPoint(x impl.Rat, y impl.Rat) impl.RatPoint {
	return impl.RatPoint{X: x, Y: y}
}

func TestP63OrdinaryCenters(t *testing.T) {
	list := []impl.Point{xy(0, 0), xy(4, 0), xy(2, 3), xy(1, -5), xy(0, 0), xy(0, 4), xy(-7, 6), xy(2, 1)}
	for _, c := range []struct {
		s    []int
		want impl.RatPoint
		ok   bool
	}{
		{[]int{6}, ratPoint(ratio(-7, 1), ratio(6, 1)), true}, {[]int{0}, ratPoint(ratio(0, 1), ratio(0, 1)), true},
		{[]int{0, 1}, ratPoint(ratio(2, 1), ratio(0, 1)), true}, {[]int{1, 2}, ratPoint(ratio(3, 1), ratio(3, 2)), true},
		{[]int{3, 6}, ratPoint(ratio(-3, 1), ratio(1, 2)), true}, {[]int{0, 6}, ratPoint(ratio(-7, 2), ratio(3, 1)), true},
		{[]int{0, 1, 2}, ratPoint(ratio(2, 1), ratio(5, 6)), true}, {[]int{1, 2, 4}, ratPoint(ratio(2, 1), ratio(5, 6)), true},
		{[]int{0, 4}, impl.RatPoint{}, false}, {[]int{0, 1, 4}, impl.RatPoint{}, false}, {[]int{0, 2, 4}, impl.RatPoint{}, false},
		{[]int{0, 1, 5}, impl.RatPoint{}, false}, {[]int{0, 1, 7}, impl.RatPoint{}, false}, {[]int{1, 4, 5}, impl.RatPoint{}, false},
	} {
		if got, ok := impl.CircleCenter(list, c.s); got != c.want || ok != c.ok {
			t.Errorf("CircleCenter(%v) = %v, %v, want %v", c.s, got, ok, c.want)
		}
		checkCircle(t, list, c.s)
	}
}

func TestP63RightAnglesDetermineNoCircle(t *testing.T) {
	for _, p := range [][]impl.Point{
		{xy(0, 0), xy(4, 0), xy(0, 3)}, {xy(0, 0), xy(5, 5), xy(-2, 2)}, {xy(-1000, -1000), xy(1000, -1000), xy(1000, 1000)}, {xy(3, 4), xy(-3, -4), xy(5, 0)},
	} {
		for i := range p {
			for _, list := range [][]impl.Point{rotated(p, i), reversed(rotated(p, i))} {
				if center, ok := impl.CircleCenter(list, []int{0, 1, 2}); ok || center != (impl.RatPoint{}) || impl.CheckEnclosing(list, []int{0, 1, 2}) {
					t.Errorf("CircleCenter(%v) = %v, %v", list, center, ok)
				}
				if len(impl.EnclosingSupport(list)) != 2 {
					t.Errorf("EnclosingSupport(%v) = %v", list, impl.EnclosingSupport(list))
				}
			}
		}
	}
}

func TestP138TheHullHasTheSameCircle(t *testing.T) {
	for _, list := range append(circleLists(), someLists()...) {
		if len(list) == 0 {
			continue
		}
		h := impl.Hull(list)
		center, ok := impl.CircleCenter(list, impl.EnclosingSupport(list))
		again, found := impl.CircleCenter(h, impl.EnclosingSupport(h))
		if !ok || !found || center != again {
			t.Fatalf("the centers for %v and its hull are %v and %v", list, center, again)
		}
	}
}

func TestP61ChangedResultsDoNotChangeTheNextOnes(t *testing.T) {
	list := []impl.Point{xy(0, 0), xy(4, 0), xy(2, 3)}
	s := impl.EnclosingSupport(list)
	s = s[:cap(s)]
	for i := range s {
		s[i] = -7
	}
	if got := impl.EnclosingSupport(list); !slices.Equal(got, []int{0, 1, 2}) {
		t.Errorf("EnclosingSupport = %v", got)
	}
}
