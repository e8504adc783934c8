package tests

import (
	"math"
	"math/big"
	"testing"

	"loop.example/planargeometry/impl"
)

// line returns a line.
func line(a int, b int, c int) impl.Line {
	return impl.Line{A: a, B: b, C: c}
}

// someLines returns small lines, lines at the limits, and lines through other points.
func someLines() []impl.Line {
	var list []impl.Line
	for a := 0; a <= 2; a++ {
		for b := -2; b <= 2; b++ {
			for c := -3; c <= 3; c++ {
				if (a > 0 || b > 0) && coprime(a, b, c) {
					list = append(list, line(a, b, c))
				}
			}
		}
	}
	list = append(list,
		line(2000, -1999, 4000000), line(1999, 2000, -3999999), line(2000, 1999, -4000000), line(1999, 1998, 4000000), line(2000, 1999, 3999999),
		line(0, 1, 4000000), line(0, 1, -4000000), line(1, 0, 4000000), line(1, 0, -4000000), line(1, -2000, 0), line(2000, 1, 1), line(0, 2000, 1),
	)
	for _, s := range largeSegments()[40:] {
		l, _ := impl.LineThrough(s.A, s.B)
		list = append(list, l)
	}
	return list
}

// coprime reports whether numbers have no common divisor but 1.
func coprime(list ...int) bool {
	divisor := new(big.Int)
	for _, n := range list {
		divisor.GCD(nil, nil, divisor, new(big.Int).Abs(big.NewInt(int64(n))))
	}
	return divisor.IsInt64() && divisor.Int64() == 1
}

// badLines returns lines that are not valid.
func badLines() []impl.Line {
	return []impl.Line{
		{}, line(0, 0, 1), line(0, -1, 0), line(0, -1, 1), line(-1, 0, 0), line(-1, 1, 1), line(0, 2, 0), line(2, 0, 4), line(2, 4, 6), line(3, -3, 0),
		line(2001, 1, 0), line(-2000, 1, 0), line(1, 2001, 0), line(1, -2001, 0), line(1, 0, 4000001), line(1, 0, -4000001), line(0, 1, 4000001),
		line(math.MinInt, 1, 1), line(1, math.MinInt, 1), line(1, 1, math.MinInt), line(math.MaxInt, 1, 1), line(1, math.MaxInt, 1), line(1, 1, math.MaxInt),
		line(math.MinInt, math.MinInt, math.MinInt), line(0, math.MinInt, 1),
	}
}

func TestValidLineHasLimits(t *testing.T) {
	for _, l := range append(someLines(), line(2, 4, 5), line(0, 2, 1), line(2, 0, 1), line(1, 0, 0), line(0, 1, 0), line(6, 10, 15)) {
		if !impl.ValidLine(l) {
			t.Errorf("ValidLine(%v) fails", l)
		}
	}
	for _, l := range badLines() {
		if impl.ValidLine(l) {
			t.Errorf("ValidLine(%v) holds", l)
		}
	}
}

// directed reports whether A is positive, or A is 0 and B is positive.
func directed(l impl.Line) bool {
	return l.A > 0 || l.A == 0 && l.B > 0
}

func TestP20LinesHaveBothPoints(t *testing.T) {
	for _, a := range somePoints() {
		for _, b := range somePoints() {
			l, ok := impl.LineThrough(a, b)
			if a == b {
				if ok || l != (impl.Line{}) {
					t.Fatalf("LineThrough of equal points %v = %v, %v", a, l, ok)
				}
				continue
			}
			if !ok || !impl.ValidLine(l) || !directed(l) || !coprime(l.A, l.B, l.C) {
				t.Fatalf("LineThrough(%v, %v) = %v, %v is not valid", a, b, l, ok)
			}
			if l.A*a.X+l.B*a.Y != l.C || l.A*b.X+l.B*b.Y != l.C || impl.SideOf(l, a) != 0 || impl.SideOf(l, b) != 0 {
				t.Fatalf("LineThrough(%v, %v) = %v does not have both", a, b, l)
			}
			if m, ok := impl.LineThrough(b, a); !ok || m != l {
				t.Fatalf("LineThrough(%v, %v) = %v, exchanged %v", a, b, l, m)
			}
		}
	}
}

func TestP20OrdinaryLines(t *testing.T) {
	for _, c := range []struct {
		a, b impl.Point
		want impl.Line
	}{
		{xy(0, 0), xy(0, 5), line(1, 0, 0)}, {xy(-3, 2), xy(-3, -7), line(1, 0, -3)}, {xy(2, -4), xy(9, -4), line(0, 1, -4)},
		{xy(0, 0), xy(6, 4), line(2, -3, 0)}, {xy(6, -4), xy(0, 0), line(2, 3, 0)}, {xy(1, 0), xy(0, 1), line(1, 1, 1)},
		{xy(-1000, -1000), xy(1000, 999), line(1999, -2000, 1000)}, {xy(1000, -1000), xy(-999, 1000), line(2000, 1999, 1000)},
	} {
		if l, ok := impl.LineThrough(c.a, c.b); !ok || l != c.want {
			t.Errorf("LineThrough(%v, %v) = %v, %v, want %v", c.a, c.b, l, ok, c.want)
		}
	}
}

func TestP20InvalidPoints(t *testing.T) {
	for _, bad := range badPoints() {
		for _, pair := range [][2]impl.Point{{bad, xy(0, 0)}, {xy(0, 0), bad}, {bad, bad}, {bad, xy(1001, 1)}} {
			if l, ok := impl.LineThrough(pair[0], pair[1]); ok || l != (impl.Line{}) {
				t.Errorf("LineThrough(%v) = %v, %v", pair, l, ok)
			}
		}
	}
}

// sideOf returns the sign of A*X + B*Y - C.
func sideOf(l impl.Line, x *big.Rat, y *big.Rat) int {
	return sum(product(big1(l.A), x), product(big1(l.B), y)).Cmp(big1(l.C))
}

func TestP21SideOfIsExact(t *testing.T) {
	for _, l := range someLines() {
		for _, p := range somePoints() {
			if n := impl.SideOf(l, p); n != sideOf(l, big1(p.X), big1(p.Y)) {
				t.Fatalf("SideOf(%v, %v) = %d", l, p, n)
			}
		}
	}
}

func TestP21SidesAgreeWithOrientation(t *testing.T) {
	list := somePoints()
	for _, s := range segmentsBetween(list) {
		l, _ := impl.LineThrough(s.A, s.B)
		for _, c := range list {
			n := impl.SideOf(l, c)
			if (n == 0) != impl.Collinear([]impl.Point{s.A, s.B, c}) {
				t.Fatalf("SideOf(%v, %v) = %d", l, c, n)
			}
			for _, d := range list {
				opposite := impl.Orient(s.A, s.B, c) == -impl.Orient(s.A, s.B, d)
				if opposite != (n == -impl.SideOf(l, d)) {
					t.Fatalf("the sides of %v and %v for %v disagree with Orient", c, d, s)
				}
			}
		}
	}
}

func TestP21InvalidArguments(t *testing.T) {
	for _, bad := range badLines() {
		if n := impl.SideOf(bad, xy(0, 0)); n != 2 {
			t.Errorf("SideOf(%v) = %d", bad, n)
		}
	}
	for _, bad := range badPoints() {
		if n := impl.SideOf(line(1, 1, 0), bad); n != 2 {
			t.Errorf("SideOf of %v = %d", bad, n)
		}
	}
}

// wantMeeting returns the result that MeetLines should have, by Cramer's rule.
func wantMeeting(l impl.Line, m impl.Line) (impl.RatPoint, int) {
	if l == m {
		return impl.RatPoint{}, impl.SameLine
	}
	if l.A*m.B == m.A*l.B {
		return impl.RatPoint{}, impl.Parallel
	}
	all := l.A*m.B - m.A*l.B
	x, okX := toRat(exact(l.C*m.B-m.C*l.B, all))
	y, okY := toRat(exact(l.A*m.C-m.A*l.C, all))
	if !okX || !okY {
		panic("no valid point")
	}
	return impl.RatPoint{X: x, Y: y}, impl.OnePoint
}

func TestP22CommonPointsAreOnBothLines(t *testing.T) {
	count := [3]int{}
	for _, l := range someLines() {
		for _, m := range someLines() {
			p, n := impl.MeetLines(l, m)
			want, kind := wantMeeting(l, m)
			if p != want || n != kind {
				t.Fatalf("MeetLines(%v, %v) = %v, %d, want %v, %d", l, m, p, n, want, kind)
			}
			if q, k := impl.MeetLines(m, l); q != p || k != n {
				t.Fatalf("MeetLines(%v, %v) = %v, %d, exchanged %v, %d", l, m, p, n, q, k)
			}
			count[n]++
			if n != impl.OnePoint {
				continue
			}
			x, y := fromRat(p.X), fromRat(p.Y)
			if sideOf(l, x, y) != 0 || sideOf(m, x, y) != 0 {
				t.Fatalf("MeetLines(%v, %v) = %v is not on both", l, m, p)
			}
			side := 0
			if beyond(x) || beyond(y) {
				side = 2
			}
			if impl.SideOfRat(l, p) != side || impl.SideOfRat(m, p) != side {
				t.Fatalf("SideOfRat of %v is not %d for %v and %v", p, side, l, m)
			}
		}
	}
	if min(count[0], count[1], count[2]) < 50 {
		t.Errorf("only %v pairs of lines", count)
	}
}

// beyond reports whether a coordinate is not in -MaxReach..MaxReach.
func beyond(n *big.Rat) bool {
	return new(big.Rat).Abs(n).Cmp(big1(impl.MaxReach)) > 0
}

func TestP22ParallelAndEqualLines(t *testing.T) {
	for _, c := range []struct {
		l, m impl.Line
		want int
	}{
		{line(1, 2, 0), line(1, 2, 1), impl.Parallel}, {line(1, 2, 0), line(2, 4, 1), impl.Parallel}, {line(0, 1, 0), line(0, 3, 1), impl.Parallel},
		{line(1, 0, 5), line(1, 0, -5), impl.Parallel}, {line(1, 2, 3), line(1, 2, 3), impl.SameLine}, {line(0, 1, 0), line(0, 1, 0), impl.SameLine},
		{line(2000, -1999, 4000000), line(2000, -1999, -4000000), impl.Parallel}, {line(2000, -1999, 4000000), line(2000, -1999, 4000000), impl.SameLine},
	} {
		if p, n := impl.MeetLines(c.l, c.m); n != c.want || p != (impl.RatPoint{}) {
			t.Errorf("MeetLines(%v, %v) = %v, %d, want %d", c.l, c.m, p, n, c.want)
		}
	}
}

func TestP22InvalidLines(t *testing.T) {
	good := line(1, 1, 1)
	for _, bad := range badLines() {
		for _, pair := range [][2]impl.Line{{bad, good}, {good, bad}, {bad, bad}} {
			if p, n := impl.MeetLines(pair[0], pair[1]); n != -1 || p != (impl.RatPoint{}) {
				t.Errorf("MeetLines(%v) = %v, %d", pair, p, n)
			}
		}
	}
}

func TestP23WholePointsHaveTheSameSide(t *testing.T) {
	for _, l := range someLines() {
		for _, p := range somePoints() {
			whole := impl.RatPoint{X: ratio(p.X, 1), Y: ratio(p.Y, 1)}
			if got, want := impl.SideOfRat(l, whole), impl.SideOf(l, p); got != want {
				t.Fatalf("SideOfRat(%v, %v) = %d, but SideOf = %d", l, p, got, want)
			}
		}
	}
}

func TestP23SideOfRatIsExact(t *testing.T) {
	list := append(smallRats(3), ratio(10000, 1), ratio(-10000, 1), ratio(99999999999, 10000000), ratio(1, 20000000), ratio(-1, 19999999), ratio(99999, 10), ratio(-1, 256), ratio(1, 78125))
	for _, l := range someLines() {
		for _, x := range list {
			for _, y := range list {
				want := sideOf(l, fromRat(x), fromRat(y))
				common := new(big.Int).Mul(fromRat(x).Denom(), fromRat(y).Denom())
				common.Quo(common, new(big.Int).GCD(nil, nil, fromRat(x).Denom(), fromRat(y).Denom()))
				if common.Int64() > impl.MaxDen || !impl.ValidRat(x) || !impl.ValidRat(y) {
					want = 2
				}
				if n := impl.SideOfRat(l, impl.RatPoint{X: x, Y: y}); n != want {
					t.Fatalf("SideOfRat(%v, %v, %v) = %d, want %d", l, x, y, n, want)
				}
			}
		}
	}
}

func TestP23LimitsOfSideOfRat(t *testing.T) {
	zero, one := ratio(0, 1), ratio(1, 1)
	for _, c := range []struct {
		x, y impl.Rat
		want int
	}{
		{ratio(10000, 1), one, 1}, {ratio(-10000, 1), one, -1}, {one, ratio(10000, 1), 1}, {one, ratio(-10000, 1), -1},
		{ratio(10001, 1), zero, 2}, {ratio(-10001, 1), zero, 2}, {zero, ratio(10001, 1), 2}, {zero, ratio(-10001, 1), 2},
		{ratio(20001, 2), zero, 2}, {ratio(19999, 2), zero, 1}, {zero, ratio(-20001, 2), 2}, {zero, ratio(-19999, 2), -1},
		{ratio(1, 256), ratio(1, 78125), 1}, {ratio(1, 257), ratio(1, 78125), 2}, {ratio(1, 3), ratio(1, 6666667), 2}, {ratio(1, 20000000), ratio(-1, 20000000), 0},
		{ratio(100000000000, 1), zero, 2}, {zero, ratio(-100000000000, 1), 2},
	} {
		if n := impl.SideOfRat(line(1, 1, 0), impl.RatPoint{X: c.x, Y: c.y}); n != c.want {
			t.Errorf("SideOfRat(%v, %v) = %d, want %d", c.x, c.y, n, c.want)
		}
	}
}

func TestP23InvalidArguments(t *testing.T) {
	good := impl.RatPoint{X: ratio(1, 2), Y: ratio(1, 3)}
	for _, bad := range badLines() {
		if n := impl.SideOfRat(bad, good); n != 2 {
			t.Errorf("SideOfRat(%v) = %d", bad, n)
		}
	}
	for _, bad := range badRats() {
		for _, p := range []impl.RatPoint{{X: bad, Y: ratio(1, 2)}, {X: ratio(1, 2), Y: bad}, {X: bad, Y: bad}} {
			if n := impl.SideOfRat(line(1, 1, 0), p); n != 2 {
				t.Errorf("SideOfRat of %v = %d", p, n)
			}
		}
	}
}
