package tests

import (
	"math"
	"math/big"
	"testing"

	"loop.example/planargeometry/impl"
)

// seg returns a segment.
func seg(a impl.Point, b impl.Point) impl.Segment {
	return impl.Segment{A: a, B: b}
}

// seg4 returns a segment with four coordinates.
func seg4(ax int, ay int, bx int, by int) impl.Segment {
	return seg(xy(ax, ay), xy(bx, by))
}

// turned returns a segment with exchanged ends.
func turned(s impl.Segment) impl.Segment {
	return seg(s.B, s.A)
}

// segmentsBetween returns the segments between different points, in both directions.
func segmentsBetween(list []impl.Point) []impl.Segment {
	var out []impl.Segment
	for _, a := range list {
		for _, b := range list {
			if a != b {
				out = append(out, seg(a, b))
			}
		}
	}
	return out
}

// someSegments returns all segments of a small grid.
func someSegments() []impl.Segment {
	return segmentsBetween(grid(4, 3, xy(-1, -1)))
}

// largeSegments returns segments with ends at the limits, and others.
func largeSegments() []impl.Segment {
	list := segmentsBetween([]impl.Point{xy(1000, 1000), xy(-1000, 1000), xy(1000, -1000), xy(-1000, -1000), xy(0, 0), xy(999, -1000), xy(-1000, -999)})
	r := fixedRandom()
	for range 60 {
		list = append(list, seg(randomPoint(r, impl.MaxCoord), randomPoint(r, impl.MaxCoord)))
	}
	return list
}

// badSegments returns segments that are not valid.
func badSegments() []impl.Segment {
	list := []impl.Segment{{}, seg4(3, 4, 3, 4), seg4(1000, 1000, 1000, 1000)}
	for _, p := range badPoints() {
		list = append(list, seg(p, xy(0, 0)), seg(xy(0, 0), p), seg(p, p))
	}
	return list
}

// segmentPairs calls f for all pairs of small segments, and for all pairs of large ones.
func segmentPairs(f func(s impl.Segment, t impl.Segment)) {
	for _, list := range [][]impl.Segment{someSegments(), largeSegments()} {
		for _, s := range list {
			for _, t := range list {
				f(s, t)
			}
		}
	}
}

func TestValidSegmentHasDifferentValidEnds(t *testing.T) {
	for _, s := range append(someSegments(), largeSegments()...) {
		if !impl.ValidSegment(s) {
			t.Errorf("ValidSegment(%v) fails", s)
		}
	}
	for _, s := range badSegments() {
		if impl.ValidSegment(s) {
			t.Errorf("ValidSegment(%v) holds", s)
		}
	}
}

// between reports whether p is on the line through a segment and in the rectangle around it.
func between(s impl.Segment, p impl.Point) bool {
	return crossOf(s.A, s.B, p) == 0 &&
		min(s.A.X, s.B.X) <= p.X && p.X <= max(s.A.X, s.B.X) &&
		min(s.A.Y, s.B.Y) <= p.Y && p.Y <= max(s.A.Y, s.B.Y)
}

func TestP15SegmentsHaveTheirEnds(t *testing.T) {
	for _, s := range append(someSegments(), largeSegments()...) {
		if !impl.OnSegment(s, s.A) || !impl.OnSegment(s, s.B) {
			t.Fatalf("%v does not have its ends", s)
		}
		for _, p := range append(somePoints(), grid(6, 5, xy(-2, -2))...) {
			got := impl.OnSegment(s, p)
			if got != between(s, p) || got != impl.OnSegment(turned(s), p) {
				t.Fatalf("OnSegment(%v, %v) = %v", s, p, got)
			}
		}
	}
}

func TestP15InvalidArguments(t *testing.T) {
	for _, p := range badPoints() {
		if impl.OnSegment(seg4(-1000, 0, 1000, 0), p) || impl.OnSegment(seg4(0, -1000, 0, 1000), p) {
			t.Errorf("OnSegment accepts %v", p)
		}
	}
	for _, s := range badSegments() {
		if impl.OnSegment(s, s.A) || impl.OnSegment(s, s.B) || impl.OnSegment(s, xy(0, 0)) {
			t.Errorf("OnSegment accepts %v", s)
		}
	}
}

// along returns s.A + u*(s.B - s.A).
func along(s impl.Segment, u *big.Rat) (*big.Rat, *big.Rat) {
	return sum(big1(s.A.X), product(u, big1(s.B.X-s.A.X))), sum(big1(s.A.Y), product(u, big1(s.B.Y-s.A.Y)))
}

// placeOn returns the u for which along is a point of the line through s.
func placeOn(s impl.Segment, p impl.Point) *big.Rat {
	if s.A.X != s.B.X {
		return exact(p.X-s.A.X, s.B.X-s.A.X)
	}
	return exact(p.Y-s.A.Y, s.B.Y-s.A.Y)
}

// commonPart returns the smallest and the largest u in 0..1 for which along is on t; nil if there is none.
func commonPart(s impl.Segment, t impl.Segment) (*big.Rat, *big.Rat) {
	fromA, fromB := crossOf(t.A, t.B, s.A), crossOf(t.A, t.B, s.B)
	low, high := big1(0), big1(1)
	if fromA != fromB {
		low = exact(fromA, fromA-fromB)
		high = low
		fromA, fromB = crossOf(s.A, s.B, t.A), crossOf(s.A, s.B, t.B)
		if v := exact(fromA, fromA-fromB); v.Sign() < 0 || v.Cmp(big1(1)) > 0 {
			return nil, nil
		}
	} else if fromA != 0 {
		return nil, nil
	} else {
		a, b := placeOn(s, t.A), placeOn(s, t.B)
		if a.Cmp(b) > 0 {
			a, b = b, a
		}
		if a.Sign() > 0 {
			low = a
		}
		if b.Cmp(high) < 0 {
			high = b
		}
	}
	if low.Cmp(high) > 0 || low.Sign() < 0 || high.Cmp(big1(1)) > 0 {
		return nil, nil
	}
	return low, high
}

// isEnd reports whether a point is an end of a segment.
func isEnd(s impl.Segment, x *big.Rat, y *big.Rat) bool {
	isA := x.Cmp(big1(s.A.X)) == 0 && y.Cmp(big1(s.A.Y)) == 0
	isB := x.Cmp(big1(s.B.X)) == 0 && y.Cmp(big1(s.B.Y)) == 0
	return isA || isB
}

// meeting returns how two segments meet, and the point if there is only one.
func meeting(s impl.Segment, t impl.Segment) (int, impl.RatPoint) {
	low, high := commonPart(s, t)
	if low == nil {
		return impl.Apart, impl.RatPoint{}
	}
	if low.Cmp(high) < 0 {
		return impl.Overlap, impl.RatPoint{}
	}
	x, y := along(s, low)
	ratX, _ := toRat(x)
	ratY, _ := toRat(y)
	if isEnd(s, x, y) || isEnd(t, x, y) {
		return impl.Touch, impl.RatPoint{X: ratX, Y: ratY}
	}
	return impl.Crossing, impl.RatPoint{X: ratX, Y: ratY}
}

func TestP16RelationsAreSymmetric(t *testing.T) {
	count := [4]int{}
	segmentPairs(func(s, u impl.Segment) {
		if !impl.ValidSegment(s) || !impl.ValidSegment(u) {
			t.Fatalf("%v or %v is not valid", s, u)
		}
		n := impl.Relation(s, u)
		if want, _ := meeting(s, u); n != want {
			t.Fatalf("Relation(%v, %v) = %d, want %d", s, u, n, want)
		}
		if impl.Relation(u, s) != n || impl.Relation(turned(s), u) != n || impl.Relation(s, turned(u)) != n {
			t.Fatalf("Relation(%v, %v) = %d depends on an order", s, u, n)
		}
		count[n]++
	})
	for n := range count {
		if count[n] < 100 {
			t.Errorf("only %d pairs have the relation %d", count[n], n)
		}
	}
	for _, s := range append(someSegments(), largeSegments()...) {
		if impl.Relation(s, s) != impl.Overlap || impl.Relation(s, turned(s)) != impl.Overlap {
			t.Errorf("%v does not overlap with itself", s)
		}
	}
}

func TestP16RelationsOfOrdinarySegments(t *testing.T) {
	s := seg4(0, 0, 4, 0)
	for _, c := range []struct {
		other impl.Segment
		want  int
	}{
		{seg4(5, 0, 9, 0), impl.Apart}, {seg4(4, 0, 9, 0), impl.Touch}, {seg4(3, 0, 9, 0), impl.Overlap}, {seg4(1, 0, 2, 0), impl.Overlap},
		{seg4(-9, 0, 0, 0), impl.Touch}, {seg4(-9, 0, 9, 0), impl.Overlap}, {seg4(0, 0, 1, 0), impl.Overlap},
		{seg4(0, 1, 4, 1), impl.Apart}, {seg4(2, 1, 2, 5), impl.Apart}, {seg4(2, 0, 2, 5), impl.Touch}, {seg4(2, -1, 2, 5), impl.Crossing},
		{seg4(4, -1, 4, 5), impl.Touch}, {seg4(4, 0, 4, 5), impl.Touch}, {seg4(5, -1, 5, 5), impl.Apart},
	} {
		if n := impl.Relation(s, c.other); n != c.want {
			t.Errorf("Relation(%v, %v) = %d, want %d", s, c.other, n, c.want)
		}
	}
}

func TestP17TouchingSegmentsShareAnEnd(t *testing.T) {
	segmentPairs(func(s, u impl.Segment) {
		n := impl.Relation(s, u)
		share := impl.OnSegment(s, u.A) || impl.OnSegment(s, u.B) || impl.OnSegment(u, s.A) || impl.OnSegment(u, s.B)
		if share != (n == impl.Touch || n == impl.Overlap) {
			t.Fatalf("Relation(%v, %v) = %d", s, u, n)
		}
	})
}

// onLine reports whether a point with fractions is on the line through a segment.
func onLine(s impl.Segment, p impl.RatPoint) bool {
	x, y := difference(fromRat(p.X), big1(s.A.X)), difference(fromRat(p.Y), big1(s.A.Y))
	return product(x, big1(s.B.Y-s.A.Y)).Cmp(product(y, big1(s.B.X-s.A.X))) == 0
}

func TestP18MeetingPointsAreOnBothLines(t *testing.T) {
	segmentPairs(func(s, u impl.Segment) {
		p, ok := impl.MeetPoint(s, u)
		n, want := meeting(s, u)
		if ok != (n == impl.Touch || n == impl.Crossing) || p != want {
			t.Fatalf("MeetPoint(%v, %v) = %v, %v, want %v", s, u, p, ok, want)
		}
		for _, pair := range [][2]impl.Segment{{u, s}, {turned(s), u}, {s, turned(u)}} {
			if q, also := impl.MeetPoint(pair[0], pair[1]); q != p || also != ok {
				t.Fatalf("MeetPoint(%v, %v) = %v, %v, in another order %v", s, u, p, ok, q)
			}
		}
		if ok && (!impl.ValidRat(p.X) || !impl.ValidRat(p.Y) || !onLine(s, p) || !onLine(u, p)) {
			t.Fatalf("MeetPoint(%v, %v) = %v is not on both lines", s, u, p)
		}
	})
}

func TestP16P18InvalidSegments(t *testing.T) {
	good := seg4(-1000, 0, 1000, 1)
	for _, bad := range badSegments() {
		for _, pair := range [][2]impl.Segment{{bad, good}, {good, bad}, {bad, bad}} {
			if n := impl.Relation(pair[0], pair[1]); n != -1 {
				t.Errorf("Relation(%v) = %d", pair, n)
			}
			if p, ok := impl.MeetPoint(pair[0], pair[1]); ok || p != (impl.RatPoint{}) {
				t.Errorf("MeetPoint(%v) = %v, %v", pair, p, ok)
			}
		}
	}
}

// squareFrom returns the squared distance of a point from the nearest point of a segment.
func squareFrom(s impl.Segment, p impl.Point) *big.Rat {
	dx, dy := s.B.X-s.A.X, s.B.Y-s.A.Y
	u := exact(dx*(p.X-s.A.X)+dy*(p.Y-s.A.Y), dx*dx+dy*dy)
	if u.Sign() < 0 {
		u = big1(0)
	}
	if u.Cmp(big1(1)) > 0 {
		u = big1(1)
	}
	x, y := along(s, u)
	x, y = difference(x, big1(p.X)), difference(y, big1(p.Y))
	return sum(product(x, x), product(y, y))
}

func TestP19CompareToSegmentIsExact(t *testing.T) {
	for _, s := range append(someSegments(), largeSegments()...) {
		for _, p := range append(somePoints(), grid(6, 5, xy(-2, -2))...) {
			square := squareFrom(s, p)
			near := int(new(big.Int).Quo(square.Num(), square.Denom()).Int64())
			for _, n := range []int{0, 1, near - 1, near, near + 1, impl.MaxSquare} {
				want := 2
				if 0 <= n && n <= impl.MaxSquare {
					want = square.Cmp(big1(n))
				}
				if got := impl.CompareToSegment(s, p, n); got != want || got != impl.CompareToSegment(turned(s), p, n) {
					t.Fatalf("CompareToSegment(%v, %v, %d) = %d, want %d", s, p, n, got, want)
				}
			}
		}
	}
}

func TestP19SegmentsAreNotFartherThanTheirEnds(t *testing.T) {
	for _, s := range append(someSegments(), largeSegments()...) {
		for _, p := range somePoints() {
			ends := min(impl.SquaredDistance(s.A, p), impl.SquaredDistance(s.B, p))
			if impl.CompareToSegment(s, p, ends) > 0 {
				t.Fatalf("%v is farther from %v than from its ends", p, s)
			}
			if (impl.CompareToSegment(s, p, 0) == 0) != impl.OnSegment(s, p) {
				t.Fatalf("%v has the distance 0 from %v, or is on it, but not both", p, s)
			}
		}
	}
}

func TestP19InvalidArguments(t *testing.T) {
	good := seg4(0, 0, 1, 0)
	for _, bad := range badSegments() {
		if n := impl.CompareToSegment(bad, xy(0, 0), 1); n != 2 {
			t.Errorf("CompareToSegment(%v) = %d", bad, n)
		}
	}
	for _, bad := range badPoints() {
		if n := impl.CompareToSegment(good, bad, 1); n != 2 {
			t.Errorf("CompareToSegment from %v = %d", bad, n)
		}
	}
	for _, bad := range []int{-1, impl.MaxSquare + 1, math.MinInt, math.MaxInt} {
		if n := impl.CompareToSegment(good, xy(0, 0), bad); n != 2 {
			t.Errorf("CompareToSegment with %d = %d", bad, n)
		}
	}
	if n := impl.CompareToSegment(seg4(-1000, -1000, -1000, -999), xy(1000, 999), impl.MaxSquare); n != -1 {
		t.Errorf("CompareToSegment at the limits = %d", n)
	}
}

func TestP132PointsOfASegmentDivideIt(t *testing.T) {
	for _, s := range append(someSegments(), largeSegments()...) {
		points := append(somePoints(), grid(6, 5, xy(-2, -2))...)
		for i := range stepsOf(s) + 1 {
			points = append(points, shift(s.A, xy((s.B.X-s.A.X)/stepsOf(s)*i, (s.B.Y-s.A.Y)/stepsOf(s)*i)))
		}
		length, count := impl.SquaredDistance(s.A, s.B), 0
		for _, p := range points {
			if !impl.OnSegment(s, p) {
				continue
			}
			count++
			if impl.SquaredDistance(s.A, p) > length || impl.SquaredDistance(s.B, p) > length {
				t.Fatalf("%v is on %v, but farther from an end than the other end", p, s)
			}
		}
		if count <= stepsOf(s) {
			t.Fatalf("only %d points are on %v", count, s)
		}
	}
}

func TestP133SegmentsArePartsOfLines(t *testing.T) {
	for _, s := range append(someSegments(), largeSegments()...) {
		l, ok := impl.LineThrough(s.A, s.B)
		if !ok {
			t.Fatalf("LineThrough of %v fails", s)
		}
		for _, p := range append(somePoints(), s.A, s.B) {
			if impl.OnSegment(s, p) && impl.SideOf(l, p) != 0 {
				t.Fatalf("%v is on %v, but not on %v", p, s, l)
			}
		}
	}
}

func TestP134CrossingSegmentsMeetWhereTheirLinesDo(t *testing.T) {
	segmentPairs(func(s, u impl.Segment) {
		if impl.Relation(s, u) != impl.Crossing {
			return
		}
		l, _ := impl.LineThrough(s.A, s.B)
		m, _ := impl.LineThrough(u.A, u.B)
		p, ok := impl.MeetPoint(s, u)
		q, n := impl.MeetLines(l, m)
		if !ok || n != impl.OnePoint || p != q {
			t.Fatalf("%v and %v meet in %v, their lines in %v", s, u, p, q)
		}
	})
}
