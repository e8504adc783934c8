package tests

import (
	"math"
	"slices"
	"testing"

	"loop.example/planargeometry/impl"
)

// wantClosest returns the result that ClosestPair should have.
func wantClosest(list []impl.Point) [3]int {
	want := [3]int{0, 0, -1}
	for i, a := range list {
		for k := i + 1; k < len(list); k++ {
			if n := squareOf(a, list[k]); want[2] < 0 || n < want[2] {
				want = [3]int{i, k, n}
			}
		}
	}
	return want
}

// closestOf returns the results of ClosestPair as one value.
func closestOf(list []impl.Point) [3]int {
	i, k, n := impl.ClosestPair(list)
	return [3]int{i, k, n}
}

func TestP41NoPairIsNearer(t *testing.T) {
	r := fixedRandom()
	for _, list := range someLists() {
		before := slices.Clone(list)
		for range 3 {
			if got := closestOf(list); got != wantClosest(list) {
				t.Fatalf("ClosestPair(%v) = %v, want %v", list, got, wantClosest(list))
			}
			sameList(t, "the argument of ClosestPair", list, before)
			r.Shuffle(len(list), func(i, k int) { list[i], list[k] = list[k], list[i] })
			before = slices.Clone(list)
		}
	}
}

func TestP41TiesBetweenPairs(t *testing.T) {
	r := fixedRandom()
	for _, list := range [][]impl.Point{grid(5, 4, xy(0, 0)), grid(1, 20, xy(0, 0)), grid(20, 1, xy(0, 0)), grid(2, 10, xy(-5, 3)), grid(3, 6, xy(0, 0))} {
		for range 300 {
			r.Shuffle(len(list), func(i, k int) { list[i], list[k] = list[k], list[i] })
			for n := range len(list) + 1 {
				if got := closestOf(list[:n]); got != wantClosest(list[:n]) {
					t.Fatalf("ClosestPair(%v) = %v, want %v", list[:n], got, wantClosest(list[:n]))
				}
			}
		}
	}
}

func TestP41AllSmallLists(t *testing.T) {
	for n := range 6 {
		points := grid(3, 2, xy(0, 0))
		sequences(points, n, func(list []impl.Point) {
			if got := closestOf(list); got != wantClosest(list) {
				t.Fatalf("ClosestPair(%v) = %v, want %v", list, got, wantClosest(list))
			}
		})
	}
}

func TestP41OrdinaryPairs(t *testing.T) {
	for _, c := range []struct {
		list []impl.Point
		want [3]int
	}{
		{nil, [3]int{0, 0, -1}}, {[]impl.Point{xy(7, 7)}, [3]int{0, 0, -1}}, {[]impl.Point{xy(7, 7), xy(7, 7)}, [3]int{0, 1, 0}},
		{[]impl.Point{xy(-1000, -1000), xy(1000, 1000)}, [3]int{0, 1, 8000000}}, {[]impl.Point{xy(1000, 1000), xy(-1000, -1000)}, [3]int{0, 1, 8000000}},
		{[]impl.Point{xy(5, 5), xy(0, 0), xy(9, 9), xy(5, 5), xy(0, 0)}, [3]int{0, 3, 0}}, {[]impl.Point{xy(0, 0), xy(3, 0), xy(3, 4), xy(1, 1)}, [3]int{0, 3, 2}},
		{[]impl.Point{xy(9, 0), xy(0, 0), xy(4, 0), xy(7, 0), xy(2, 0)}, [3]int{0, 3, 4}}, {[]impl.Point{xy(0, 9), xy(0, 0), xy(0, 4), xy(0, 7), xy(0, 2)}, [3]int{0, 3, 4}},
	} {
		if got := closestOf(c.list); got != c.want {
			t.Errorf("ClosestPair(%v) = %v, want %v", c.list, got, c.want)
		}
	}
}

func TestP41P42P43InvalidLists(t *testing.T) {
	for _, list := range badLists() {
		if got := closestOf(list); got != [3]int{0, 0, -1} {
			t.Errorf("ClosestPair(%v) = %v", list, got)
		}
		if n := impl.NearestTo(list, xy(0, 0)); n != -1 {
			t.Errorf("NearestTo(%v) = %d", list, n)
		}
		if n := impl.CountWithin(list, xy(0, 0), impl.MaxSquare); n != -1 {
			t.Errorf("CountWithin(%v) = %d", list, n)
		}
	}
	for _, bad := range badPoints() {
		for _, list := range [][]impl.Point{nil, {xy(0, 0)}, {xy(0, 0), xy(1000, 1000)}} {
			if n := impl.NearestTo(list, bad); n != -1 {
				t.Errorf("NearestTo(%v, %v) = %d", list, bad, n)
			}
			if n := impl.CountWithin(list, bad, impl.MaxSquare); n != -1 {
				t.Errorf("CountWithin(%v, %v) = %d", list, bad, n)
			}
		}
	}
}

func TestP137TheNearestPointsAreNotFartherThanTheFarthest(t *testing.T) {
	for _, list := range someLists() {
		near, far := closestOf(list), diameterOf(list)
		if near[2] > far[2] || len(list) == 2 && near[2] != far[2] {
			t.Fatalf("ClosestPair(%v) = %v, but Diameter = %v", list, near, far)
		}
		for k := 2; k <= len(list); k++ {
			pair := list[k-2 : k]
			if n := closestOf(pair)[2]; n != diameterOf(pair)[2] || n != squareOf(pair[0], pair[1]) {
				t.Fatalf("ClosestPair(%v) = %v, but Diameter = %v", pair, n, diameterOf(pair))
			}
		}
	}
}

func TestP42NoPointIsNearer(t *testing.T) {
	for _, list := range someLists() {
		before := slices.Clone(list)
		for _, q := range slices.Concat(somePoints(), list) {
			want := -1
			for i, p := range list {
				if want < 0 || squareOf(p, q) < squareOf(list[want], q) {
					want = i
				}
			}
			if got := impl.NearestTo(list, q); got != want {
				t.Fatalf("NearestTo(%v, %v) = %d, want %d", list, q, got, want)
			}
		}
		for i, p := range list {
			if n := impl.NearestTo(list, p); n > i || list[n] != p {
				t.Fatalf("NearestTo(%v, %v) = %d", list, p, n)
			}
		}
		sameList(t, "the argument of NearestTo", list, before)
	}
}

func TestP42OrdinaryNearestPoints(t *testing.T) {
	list := []impl.Point{xy(1, 0), xy(0, 1), xy(-1, 0), xy(5, 5), xy(5, 5), xy(-1000, -1000)}
	for _, c := range []struct {
		q    impl.Point
		want int
	}{
		{xy(0, 0), 0}, {xy(-1, 1), 1}, {xy(-2, 0), 2}, {xy(6, 6), 3}, {xy(1000, 1000), 3}, {xy(-900, -900), 5}, {xy(3, 3), 3},
	} {
		if n := impl.NearestTo(list, c.q); n != c.want {
			t.Errorf("NearestTo(%v) = %d, want %d", c.q, n, c.want)
		}
	}
	if impl.NearestTo(nil, xy(0, 0)) != -1 || impl.NearestTo([]impl.Point{xy(1000, 1000)}, xy(-1000, -1000)) != 0 {
		t.Error("NearestTo of nothing, or of one point")
	}
}

func TestP43LargerCirclesHaveMorePoints(t *testing.T) {
	sizes := []int{math.MinInt, -1, 0, 1, 2, 3, 4, 5, 8, 9, 10, 1000, 500000, 2000000, impl.MaxSquare - 1, impl.MaxSquare, impl.MaxSquare + 1, math.MaxInt}
	for _, list := range someLists() {
		before := slices.Clone(list)
		for _, q := range somePoints() {
			last := 0
			for _, n := range sizes {
				want := 0
				for _, p := range list {
					if squareOf(p, q) <= n {
						want++
					}
				}
				got := impl.CountWithin(list, q, n)
				if got != want || got < last {
					t.Fatalf("CountWithin(%v, %v, %d) = %d, want %d", list, q, n, got, want)
				}
				last = got
			}
			if n := impl.CountWithin(list, q, impl.MaxSquare); n != len(list) {
				t.Fatalf("CountWithin(%v, %v) has %d points for MaxSquare", list, q, n)
			}
		}
		sameList(t, "the argument of CountWithin", list, before)
	}
}

func TestP43OrdinaryCircles(t *testing.T) {
	list := []impl.Point{xy(0, 0), xy(3, 4), xy(3, 4), xy(-5, 0), xy(1000, 1000)}
	for _, c := range []struct {
		q    impl.Point
		n    int
		want int
	}{
		{xy(0, 0), -1, 0}, {xy(0, 0), 0, 1}, {xy(0, 0), 24, 1}, {xy(0, 0), 25, 4}, {xy(0, 0), 1999999, 4}, {xy(0, 0), 2000000, 5},
		{xy(3, 4), 0, 2}, {xy(-1000, -1000), 7999999, 4}, {xy(-1000, -1000), 8000000, 5},
	} {
		if n := impl.CountWithin(list, c.q, c.n); n != c.want {
			t.Errorf("CountWithin(%v, %d) = %d, want %d", c.q, c.n, n, c.want)
		}
	}
	if n := impl.CountWithin(nil, xy(0, 0), 5); n != 0 {
		t.Errorf("CountWithin of nothing = %d", n)
	}
}
