package tests

import (
	"math"
	"math/big"
	"math/rand/v2"
	"slices"
	"testing"

	"loop.example/planargeometry/impl"
)

// xy returns a point.
func xy(x int, y int) impl.Point {
	return impl.Point{X: x, Y: y}
}

// shift returns a point moved by a vector.
func shift(p impl.Point, v impl.Point) impl.Point {
	return xy(p.X+v.X, p.Y+v.Y)
}

// grid returns the points with coordinates in 0..w-1 and 0..h-1, moved by from.
func grid(w int, h int, from impl.Point) []impl.Point {
	var list []impl.Point
	for x := range w {
		for y := range h {
			list = append(list, shift(from, xy(x, y)))
		}
	}
	return list
}

// fixedRandom returns a source of the same numbers in each run.
func fixedRandom() *rand.Rand {
	return rand.New(rand.NewPCG(1, 2))
}

// randomPoint returns a valid point with coordinates in -most..most.
func randomPoint(r *rand.Rand, most int) impl.Point {
	return xy(r.IntN(2*most+1)-most, r.IntN(2*most+1)-most)
}

// somePoints returns a small grid, points at the limits, and others.
func somePoints() []impl.Point {
	list := grid(3, 3, xy(-1, -1))
	list = append(list, xy(1000, 1000), xy(-1000, 1000), xy(1000, -1000), xy(-1000, -1000), xy(1000, 999), xy(-999, -1000))
	r := fixedRandom()
	for range 5 {
		list = append(list, randomPoint(r, impl.MaxCoord))
	}
	return list
}

// badPoints returns points that are not valid.
func badPoints() []impl.Point {
	return []impl.Point{
		xy(1001, 0), xy(-1001, 0), xy(0, 1001), xy(0, -1001),
		xy(math.MinInt, 0), xy(0, math.MaxInt), xy(math.MaxInt, math.MinInt),
	}
}

// triples calls f for all triples of points.
func triples(list []impl.Point, f func(a impl.Point, b impl.Point, c impl.Point)) {
	for _, a := range list {
		for _, b := range list {
			for _, c := range list {
				f(a, b, c)
			}
		}
	}
}

// manyPoints returns the first n points of a row of different ones.
func manyPoints(n int) []impl.Point {
	var list []impl.Point
	for i := range n {
		list = append(list, xy(i, i*i))
	}
	return list
}

// randomList returns up to most points that are often equal or on one line.
func randomList(r *rand.Rand, most int) []impl.Point {
	var list []impl.Point
	for range r.IntN(most + 1) {
		list = append(list, randomPoint(r, 2))
	}
	return list
}

// exact returns a fraction of two integers for comparison.
func exact(num int, den int) *big.Rat {
	return big.NewRat(int64(num), int64(den))
}

// big1 returns an integer as a fraction for comparison.
func big1(n int) *big.Rat {
	return exact(n, 1)
}

// fromRat returns a valid fraction for comparison.
func fromRat(r impl.Rat) *big.Rat {
	return exact(r.Num, r.Den)
}

// toRat returns the fraction for a number, and whether it is within the limits.
func toRat(b *big.Rat) (impl.Rat, bool) {
	if !b.Num().IsInt64() || !b.Denom().IsInt64() {
		return impl.Rat{}, false
	}
	num, den := int(b.Num().Int64()), int(b.Denom().Int64())
	if num < -impl.MaxNum || num > impl.MaxNum || den > impl.MaxDen {
		return impl.Rat{}, false
	}
	return impl.Rat{Num: num, Den: den}, true
}

// sum, product and difference are those of numbers for comparison.
func sum(a *big.Rat, b *big.Rat) *big.Rat        { return new(big.Rat).Add(a, b) }
func product(a *big.Rat, b *big.Rat) *big.Rat    { return new(big.Rat).Mul(a, b) }
func difference(a *big.Rat, b *big.Rat) *big.Rat { return new(big.Rat).Sub(a, b) }

// sameList fails the test if two lists of points differ.
func sameList(t *testing.T, name string, got []impl.Point, want []impl.Point) {
	t.Helper()
	if !slices.Equal(got, want) {
		t.Errorf("%s = %v, want %v", name, got, want)
	}
}

// someLists returns lists with equal points, points on one line, ties and large coordinates.
func someLists() [][]impl.Point {
	lists := [][]impl.Point{
		nil, {}, {xy(1, 2)}, {xy(1, 2), xy(1, 2)}, {xy(3, 3), xy(1, 1)}, {xy(0, 0), xy(4, 0), xy(0, 3)},
		make([]impl.Point, impl.MaxPoints), manyPoints(impl.MaxPoints), grid(5, 4, xy(0, 0)),
		{xy(-1000, -1000), xy(1000, -1000), xy(1000, 1000), xy(-1000, 1000)},
	}
	r := fixedRandom()
	for range 300 {
		lists = append(lists, randomList(r, 6), randomList(r, impl.MaxPoints), pointsOnLine(r))
		lists = append(lists, largeList(r, 5), largeList(r, impl.MaxPoints))
	}
	return lists
}

// pointsOnLine returns up to MaxPoints points of a line, some of them equal.
func pointsOnLine(r *rand.Rand) []impl.Point {
	var list []impl.Point
	from, step := randomPoint(r, 100), randomPoint(r, 3)
	for range r.IntN(impl.MaxPoints + 1) {
		n := r.IntN(25)
		list = append(list, shift(from, xy(n*step.X, n*step.Y)))
	}
	return list
}

// largeList returns up to most points with large coordinates.
func largeList(r *rand.Rand, most int) []impl.Point {
	var list []impl.Point
	for range r.IntN(most + 1) {
		list = append(list, randomPoint(r, impl.MaxCoord))
	}
	return list
}

// badLists returns lists that are not valid: too many points, and points that are not valid.
func badLists() [][]impl.Point {
	lists := [][]impl.Point{manyPoints(impl.MaxPoints + 1), make([]impl.Point, impl.MaxPoints+1)}
	for _, bad := range badPoints() {
		lists = append(lists, []impl.Point{bad}, []impl.Point{xy(0, 0), xy(5, 0), bad}, []impl.Point{bad, xy(5, 0), xy(0, 5), xy(1, 1)})
	}
	return lists
}

// moved returns points moved by a vector.
func moved(list []impl.Point, v impl.Point) []impl.Point {
	var out []impl.Point
	for _, p := range list {
		out = append(out, shift(p, v))
	}
	return out
}

// reversed returns points in the opposite order.
func reversed(list []impl.Point) []impl.Point {
	out := slices.Clone(list)
	slices.Reverse(out)
	return out
}

// rotated returns points beginning with the one with the index first.
func rotated(list []impl.Point, first int) []impl.Point {
	return slices.Concat(list[first:], list[:first])
}

// smallest returns the index of the first point in order.
func smallest(list []impl.Point) int {
	best := 0
	for i, p := range list {
		if b := list[best]; p.X < b.X || p.X == b.X && p.Y < b.Y {
			best = i
		}
	}
	return best
}

// squareOf returns the squared distance of two points.
func squareOf(a impl.Point, b impl.Point) int {
	return (a.X-b.X)*(a.X-b.X) + (a.Y-b.Y)*(a.Y-b.Y)
}

// keepsArgument fails the test if a function changes its list, or if its result shares memory with it.
func keepsArgument(t *testing.T, name string, list []impl.Point, f func([]impl.Point) []impl.Point) {
	t.Helper()
	array := append(slices.Clone(list), xy(7, 7), xy(8, 8))
	before := slices.Clone(array)
	got := f(array[:len(list)])
	got = got[:cap(got)]
	for i := range got {
		got[i] = xy(-77, 77)
	}
	sameList(t, "the argument of "+name, array, before)
}
