package impl

import (
	"cmp"
	"slices"
)

// How two segments meet.
const (
	Apart    = 0
	Touch    = 1
	Crossing = 2
	Overlap  = 3
)

// MaxSquare is the largest squared distance.
const MaxSquare = 8000000

// Segment connects two different points.
type Segment struct {
	A Point
	B Point
}

// RatPoint is a point with fractions as coordinates.
type RatPoint struct {
	X Rat
	Y Rat
}

// ValidSegment reports whether a segment is valid.
func ValidSegment(s Segment) bool {
	return allValid(s.A, s.B) && s.A != s.B
}

// has is OnSegment for a segment and a point that need no check.
func (s Segment) has(p Point) bool {
	toA, toB := s.A.minus(p), s.B.minus(p)
	return toA.cross(toB) == 0 && toA.dot(toB) <= 0
}

// divides reports whether two points are on different sides of the line
// through a segment, and none of them is on it.
func (s Segment) divides(p Point, q Point) bool {
	return sign(turn(s.A, s.B, p))*sign(turn(s.A, s.B, q)) < 0
}

// OnSegment reports whether a point is on a segment.
func OnSegment(s Segment, p Point) bool {
	return ValidSegment(s) && ValidPoint(p) && s.has(p)
}

// commonEnds returns the ends of two segments that are on both of them, each once.
func commonEnds(s Segment, t Segment) []Point {
	var common []Point
	for _, p := range [...]Point{s.A, s.B, t.A, t.B} {
		if s.has(p) && t.has(p) && !slices.Contains(common, p) {
			common = append(common, p)
		}
	}
	return common
}

// Relation returns how two segments meet.
func Relation(s Segment, t Segment) int {
	if !ValidSegment(s) || !ValidSegment(t) {
		return -1
	}
	// More than one common point means a common part, which has two ends,
	// both of them ends of segments.
	switch len(commonEnds(s, t)) {
	case 0:
		if s.divides(t.A, t.B) && t.divides(s.A, s.B) {
			return Crossing
		}
		return Apart
	case 1:
		return Touch
	}
	return Overlap
}

// crossingPoint returns the common point of segments that cross.
func crossingPoint(s Segment, t Segment) RatPoint {
	along, across := s.B.minus(s.A), t.B.minus(t.A)
	// The point is s.A + along*part/all. As it is on both segments, its
	// coordinates are fractions within the limits.
	part, all := t.A.minus(s.A).cross(across), along.cross(across)
	return RatPoint{
		lowestTerms(s.A.X*all+along.X*part, all),
		lowestTerms(s.A.Y*all+along.Y*part, all),
	}
}

// MeetPoint returns the only common point of two segments.
func MeetPoint(s Segment, t Segment) (RatPoint, bool) {
	switch Relation(s, t) {
	case Touch:
		end := commonEnds(s, t)[0]
		return RatPoint{whole(end.X), whole(end.Y)}, true
	case Crossing:
		return crossingPoint(s, t), true
	}
	return RatPoint{}, false
}

// scale returns a factor that makes squared distances from a segment integers:
// its squared length, or 1 if its ends are equal.
func (s Segment) scale() int {
	return max(SquaredDistance(s.A, s.B), 1)
}

// scaledSquare returns the squared distance of a point from a segment, whose
// ends may be equal, times its scale.
func (s Segment) scaledSquare(p Point) int {
	along, toP := s.B.minus(s.A), p.minus(s.A)
	length, shadow := along.dot(along), along.dot(toP)
	if shadow <= 0 {
		return SquaredDistance(s.A, p) * s.scale()
	}
	if shadow >= length {
		return SquaredDistance(s.B, p) * s.scale()
	}
	// The nearest point is between the ends: the squared distance from the
	// line is area*area/length.
	area := along.cross(toP)
	return area * area
}

// CompareToSegment compares the squared distance of a point from a segment with a number.
func CompareToSegment(s Segment, p Point, n int) int {
	if !ValidSegment(s) || !ValidPoint(p) || n < 0 || n > MaxSquare {
		return 2
	}
	return cmp.Compare(s.scaledSquare(p), n*s.scale())
}
