package impl

import (
	"cmp"
	"slices"
)

// Limits of points.
const (
	MaxCoord  = 1000
	MaxPoints = 20
)

// Point is a point with integer coordinates.
type Point struct {
	X int
	Y int
}

// plus returns the sum of two vectors.
func (p Point) plus(q Point) Point {
	return Point{p.X + q.X, p.Y + q.Y}
}

// minus returns the vector from q to p.
func (p Point) minus(q Point) Point {
	return Point{p.X - q.X, p.Y - q.Y}
}

// cross returns the cross product of two vectors.
func (p Point) cross(q Point) int {
	return p.X*q.Y - p.Y*q.X
}

// dot returns the scalar product of two vectors.
func (p Point) dot(q Point) int {
	return p.X*q.X + p.Y*q.Y
}

// compare returns -1, 0 or 1 if p is before, equal to or after q in order.
func (p Point) compare(q Point) int {
	return cmp.Or(cmp.Compare(p.X, q.X), cmp.Compare(p.Y, q.Y))
}

// within reports whether n is in -limit..limit. It compares instead of
// taking the absolute value, which the smallest int does not have.
func within(n int, limit int) bool {
	return -limit <= n && n <= limit
}

// ValidPoint reports whether a point is valid.
func ValidPoint(p Point) bool {
	return within(p.X, MaxCoord) && within(p.Y, MaxCoord)
}

// allValid reports whether all points are valid, however many there are.
func allValid(list ...Point) bool {
	for _, p := range list {
		if !ValidPoint(p) {
			return false
		}
	}
	return true
}

// validList reports whether a list of points is valid.
func validList(list []Point) bool {
	return len(list) <= MaxPoints && allValid(list...)
}

// turn is Cross for points that need no check.
func turn(a Point, b Point, c Point) int {
	return b.minus(a).cross(c.minus(a))
}

// Cross returns twice the signed area of a triangle.
func Cross(a Point, b Point, c Point) int {
	if !allValid(a, b, c) {
		return 0
	}
	return turn(a, b, c)
}

// Orient returns the orientation of three points.
func Orient(a Point, b Point, c Point) int {
	if !allValid(a, b, c) {
		return 2
	}
	return sign(turn(a, b, c))
}

// SquaredDistance returns the squared distance of two points.
func SquaredDistance(a Point, b Point) int {
	if !allValid(a, b) {
		return -1
	}
	d := a.minus(b)
	return d.dot(d)
}

// SortPoints returns the points in order, each once.
func SortPoints(list []Point) []Point {
	if !validList(list) {
		return nil
	}
	sorted := slices.Clone(list)
	slices.SortFunc(sorted, Point.compare)
	return slices.Compact(sorted)
}

// Collinear reports whether all points are on one line.
func Collinear(list []Point) bool {
	if !validList(list) {
		return false
	}
	if len(list) == 0 {
		return true
	}
	// The first and the last point in order differ unless all are equal,
	// so they determine the only line that may have all of them.
	first := slices.MinFunc(list, Point.compare)
	last := slices.MaxFunc(list, Point.compare)
	for _, p := range list {
		if turn(first, last, p) != 0 {
			return false
		}
	}
	return true
}
