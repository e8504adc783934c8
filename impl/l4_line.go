package impl

import "cmp"

// How two lines meet.
const (
	Parallel = 0
	OnePoint = 1
	SameLine = 2
)

// Limits of lines.
const (
	MaxSlope  = 2000
	MaxOffset = 4000000
	MaxReach  = 10000
)

// Line has the points for which A*X + B*Y = C.
type Line struct {
	A int
	B int
	C int
}

// signed is any integer type with negative numbers.
type signed interface {
	~int | ~int8 | ~int16 | ~int32 | ~int64
}

// sign returns -1, 0 or 1 if n is negative, zero or positive.
func sign[T signed](n T) T {
	return T(cmp.Compare(n, 0))
}

// gcd returns the greatest common divisor of some numbers, which is never
// negative; 0 if all of them are 0. The smallest number of T is not allowed.
func gcd[T signed](list ...T) T {
	var divisor T
	for _, n := range list {
		for n != 0 {
			divisor, n = n, divisor%n
		}
	}
	return max(divisor, -divisor)
}

// ValidLine reports whether a line is valid.
func ValidLine(l Line) bool {
	if !within(l.A, MaxSlope) || !within(l.B, MaxSlope) || !within(l.C, MaxOffset) {
		return false
	}
	if l.A < 0 || l.A == 0 && l.B <= 0 {
		return false
	}
	return gcd(l.A, l.B, l.C) == 1
}

// LineThrough returns the line through two points.
func LineThrough(a Point, b Point) (Line, bool) {
	if !allValid(a, b) || a == b {
		return Line{}, false
	}
	normal := Point{b.Y - a.Y, a.X - b.X}
	// A and B follow the order of points: those of a valid line are after 0, 0.
	if normal.compare(Point{}) < 0 {
		normal = Point{-normal.X, -normal.Y}
	}
	divisor := gcd(normal.X, normal.Y)
	normal = Point{normal.X / divisor, normal.Y / divisor}
	return Line{normal.X, normal.Y, normal.dot(a)}, true
}

// SideOf returns the side of a line on which a point is.
func SideOf(l Line, p Point) int {
	if !ValidLine(l) || !ValidPoint(p) {
		return 2
	}
	return cmp.Compare(l.A*p.X+l.B*p.Y, l.C)
}

// meet returns the common point of two lines that are not parallel. They may
// have any sign or common divisor: the limits of A, B and C alone keep both
// fractions within those of fractions.
func (l Line) meet(m Line) RatPoint {
	all := l.A*m.B - m.A*l.B
	return RatPoint{
		lowestTerms(l.C*m.B-m.C*l.B, all),
		lowestTerms(l.A*m.C-m.A*l.C, all),
	}
}

// MeetLines returns the common point of two lines.
func MeetLines(l Line, m Line) (RatPoint, int) {
	if !ValidLine(l) || !ValidLine(m) {
		return RatPoint{}, -1
	}
	if l == m {
		return RatPoint{}, SameLine
	}
	if l.A*m.B == m.A*l.B {
		return RatPoint{}, Parallel
	}
	return l.meet(m), OnePoint
}

// reachable reports whether a valid fraction is in -MaxReach..MaxReach.
func reachable(r Rat) bool {
	return within(r.Num, MaxReach*r.Den)
}

// commonDen returns the least common multiple of both denominators.
func (p RatPoint) commonDen() int {
	return p.X.Den / gcd(p.X.Den, p.Y.Den) * p.Y.Den
}

// sideAt is SideOfRat for points within its limits. The line may have any sign
// or common divisor.
func (l Line) sideAt(p RatPoint) int {
	common := p.commonDen()
	x, y := common/p.X.Den*p.X.Num, common/p.Y.Den*p.Y.Num
	return cmp.Compare(l.A*x+l.B*y, l.C*common)
}

// SideOfRat returns the side of a line on which a point with fractions is.
func SideOfRat(l Line, p RatPoint) int {
	if !ValidLine(l) || !ValidRat(p.X) || !ValidRat(p.Y) || !reachable(p.X) || !reachable(p.Y) {
		return 2
	}
	if p.commonDen() > MaxDen {
		return 2
	}
	return l.sideAt(p)
}
