package tests

import (
	"math"
	"math/big"
	"math/rand/v2"
	"slices"
	"testing"

	"loop.example/planargeometry/impl"
)

// deviation returns the deviation of a point between two others.
func deviation(a impl.Point, b impl.Point, p impl.Point) *big.Rat {
	if a == b {
		return big1(squareOf(a, p))
	}
	return squareFrom(seg(a, b), p)
}

// keptBetween returns the indices between two kept ones that SimplifyPath should keep.
func keptBetween(p []impl.Point, from int, to int, most int) []int {
	best, far := 0, big1(most)
	for i := from + 1; i < to; i++ {
		if d := deviation(p[from], p[to], p[i]); d.Cmp(far) > 0 {
			best, far = i, d
		}
	}
	if best == 0 {
		return nil
	}
	return slices.Concat(keptBetween(p, from, best, most), []int{best}, keptBetween(p, best, to, most))
}

// wantKept returns the result that SimplifyPath should have for valid arguments.
func wantKept(p []impl.Point, most int) []int {
	last := len(p) - 1
	return slices.Concat([]int{0}, keptBetween(p, 0, last, most), []int{last})
}

// wantAccepted returns the result that CheckSimplified should have for a path.
func wantAccepted(p []impl.Point, most int, kept []int) bool {
	if most < 0 || most > 8000000 || len(kept) < 2 || kept[0] != 0 || kept[len(kept)-1] != len(p)-1 {
		return false
	}
	for k := 1; k < len(kept); k++ {
		if kept[k-1] >= kept[k] {
			return false
		}
	}
	for k := 1; k < len(kept); k++ {
		for i := kept[k-1] + 1; i < kept[k]; i++ {
			if deviation(p[kept[k-1]], p[kept[k]], p[i]).Cmp(big1(most)) > 0 {
				return false
			}
		}
	}
	return true
}

// withoutRepeats returns a list without points that are equal to the one before them.
func withoutRepeats(list []impl.Point) []impl.Point {
	return slices.Compact(slices.Clone(list))
}

// zigzag returns a path all points of which but the ends have the same deviation n*n.
func zigzag(n int, count int) []impl.Point {
	p := []impl.Point{xy(0, 0)}
	for i := range count {
		p = append(p, xy(i+1, n))
		n = -n
	}
	return append(p, xy(count+1, 0))
}

// paths returns paths: with small and with large coordinates, on lines, closed
// ones, polygons, and those with several points of the same deviation.
func paths() [][]impl.Point {
	lists := [][]impl.Point{
		{xy(0, 0), xy(1, 1), xy(2, 0), xy(3, 5), xy(4, 0)}, {xy(0, 0), xy(3, 4), xy(0, 0)}, {xy(0, 0), xy(3, 4), xy(0, 5), xy(0, 0)},
		{xy(0, 0), xy(9, 0), xy(3, 0), xy(5, 0)}, {xy(1, 1), xy(1, 1), xy(2, 2)}, zigzag(1, 18), zigzag(2, 3), zigzag(1000, 2), manyPoints(impl.MaxPoints),
		{xy(-1000, -1000), xy(1000, 1000), xy(-1000, -1000)}, {xy(-1000, -1000), xy(1000, 1000), xy(-1000, 1000), xy(1000, -1000)},
		{xy(-1000, -1000), xy(1000, 1000), xy(999, 1000), xy(-999, -1000), xy(1000, 999), xy(-1000, -999)},
	}
	lists = append(append(lists, allPolygons()...), someLists()...)
	for _, p := range slices.Clone(lists) {
		if n := len(p); n > 1 {
			lists = append(lists, append(slices.Clone(p[:min(n, impl.MaxPoints-1)]), p[0]))
		}
	}
	var valid [][]impl.Point
	for _, list := range lists {
		if p := withoutRepeats(list); len(p) >= 2 {
			valid = append(valid, p)
		}
	}
	return valid
}

// badPaths returns lists of points that are no paths.
func badPaths() [][]impl.Point {
	p := xy(3, 4)
	lists := [][]impl.Point{nil, {}, {p}, {p, p}, {p, p, xy(0, 0)}, {xy(0, 0), p, p}, {xy(0, 0), p, p, xy(1, 1)}, {xy(0, 0), xy(1, 1), xy(2, 0), p, p, xy(7, 7)}}
	for _, list := range badLists() {
		lists = append(lists, list, append([]impl.Point{xy(1, 1), xy(2, 2)}, list...))
	}
	return lists
}

// badTolerances returns numbers that are no tolerances.
func badTolerances() []int {
	return []int{-1, -2, -impl.MaxSquare, 8000001, 8000002, 2 * impl.MaxSquare, math.MinInt, math.MaxInt}
}

// tolerances returns tolerances for a path: the limits, some others, and the
// integers around the deviations between two points.
func tolerances(r *rand.Rand, p []impl.Point) []int {
	list := []int{0, 1, 2, 3, 5, 10, 100, impl.MaxSquare - 1, impl.MaxSquare}
	for range 6 {
		from := r.IntN(len(p) - 1)
		to := from + 1 + r.IntN(len(p)-from-1)
		i := from + r.IntN(to-from)
		d := deviation(p[from], p[to], p[i])
		floor := int(new(big.Int).Quo(d.Num(), d.Denom()).Int64())
		list = append(list, max(floor-1, 0), floor, min(floor+1, impl.MaxSquare))
	}
	slices.Sort(list)
	return slices.Compact(list)
}

func TestP110SimplifiedPathsAreNear(t *testing.T) {
	r := fixedRandom()
	lengths := map[int]int{}
	for _, p := range paths() {
		for _, most := range tolerances(r, p) {
			var got []int
			keepsPoints(t, "SimplifyPath", p, func(p []impl.Point) { got = impl.SimplifyPath(p, most) })
			if want := wantKept(p, most); !slices.Equal(got, want) {
				t.Fatalf("SimplifyPath(%v, %d) = %v, want %v", p, most, got, want)
			}
			if !impl.CheckSimplified(p, most, got) || !wantAccepted(p, most, got) {
				t.Fatalf("CheckSimplified(%v, %d, %v) fails", p, most, got)
			}
			lengths[len(got)]++
		}
	}
	for n := 2; n <= impl.MaxPoints; n++ {
		if lengths[n] < 20 {
			t.Errorf("only %d simplified paths have %d points", lengths[n], n)
		}
	}
}

func TestP110AllSmallPaths(t *testing.T) {
	for n := 2; n <= 5; n++ {
		sequences(grid(3, 2, xy(0, 0)), n, func(p []impl.Point) {
			if len(withoutRepeats(p)) < n {
				return
			}
			for most := range 6 {
				got, want := impl.SimplifyPath(p, most), wantKept(p, most)
				if !slices.Equal(got, want) || !impl.CheckSimplified(p, most, got) {
					t.Fatalf("SimplifyPath(%v, %d) = %v, want %v", p, most, got, want)
				}
			}
		})
	}
}

func TestP110OrdinaryPaths(t *testing.T) {
	hill := []impl.Point{xy(0, 0), xy(1, 1), xy(2, 0), xy(3, 5), xy(4, 0)}
	closed := []impl.Point{xy(0, 0), xy(3, 4), xy(5, 0), xy(4, -3), xy(0, 0)}
	slanted := []impl.Point{xy(0, 0), xy(0, 1), xy(1, 0), xy(1, 1)}
	overshoot := []impl.Point{xy(0, 0), xy(-3, 0), xy(8, 0), xy(5, 0)}
	limits := []impl.Point{xy(-1000, -1000), xy(1000, 1000), xy(-1000, -1000)}
	for name, c := range map[string]struct {
		p    []impl.Point
		most int
		want []int
	}{
		"two points":                   {[]impl.Point{xy(0, 0), xy(7, 7)}, 0, []int{0, 1}},
		"a hill, 0":                    {hill, 0, []int{0, 1, 2, 3, 4}},
		"a hill, 1":                    {hill, 1, []int{0, 2, 3, 4}},
		"a hill, 2":                    {hill, 2, []int{0, 2, 3, 4}},
		"a hill, 3":                    {hill, 3, []int{0, 3, 4}},
		"a hill, 24":                   {hill, 24, []int{0, 3, 4}},
		"a hill, exactly":              {hill, 25, []int{0, 4}},
		"closed, 0":                    {closed, 0, []int{0, 1, 2, 3, 4}},
		"closed, the first of three":   {closed, 24, []int{0, 1, 3, 4}},
		"closed, exactly":              {closed, 25, []int{0, 4}},
		"closed, there and back":       {[]impl.Point{xy(0, 0), xy(3, 4), xy(0, 0)}, 24, []int{0, 1, 2}},
		"there and back, exactly":      {[]impl.Point{xy(0, 0), xy(3, 4), xy(0, 0)}, 25, []int{0, 2}},
		"the same deviations":          {zigzag(2, 3), 3, []int{0, 1, 2, 3, 4}},
		"the same deviations, exactly": {zigzag(2, 3), 4, []int{0, 4}},
		"the first of two":             {slanted, 0, []int{0, 1, 2, 3}},
		"halves":                       {slanted, 1, []int{0, 3}},
		"beyond both ends, 0":          {overshoot, 0, []int{0, 1, 2, 3}},
		"beyond both ends, 8":          {overshoot, 8, []int{0, 1, 2, 3}},
		"beyond both ends, 9":          {overshoot, 9, []int{0, 3}},
		"on a line":                    {[]impl.Point{xy(0, 0), xy(1, 2), xy(2, 4), xy(3, 6)}, 0, []int{0, 3}},
		"back on a line":               {[]impl.Point{xy(0, 0), xy(2, 4), xy(1, 2), xy(3, 6)}, 0, []int{0, 3}},
		"a turn on a line":             {[]impl.Point{xy(0, 0), xy(1, 2), xy(4, 8), xy(3, 6)}, 0, []int{0, 2, 3}},
		"the limits, 0":                {limits, 0, []int{0, 1, 2}},
		"the limits, one less":         {limits, impl.MaxSquare - 1, []int{0, 1, 2}},
		"the limits, exactly":          {limits, impl.MaxSquare, []int{0, 2}},
	} {
		if got := impl.SimplifyPath(c.p, c.most); !slices.Equal(got, c.want) {
			t.Errorf("%s: SimplifyPath(%v, %d) = %v, want %v", name, c.p, c.most, got, c.want)
		}
	}
}

func TestP110P113InvalidPaths(t *testing.T) {
	for _, p := range badPaths() {
		all := indicesWith(len(p), func(int) bool { return true })
		for _, most := range []int{0, 1, impl.MaxSquare} {
			if got := impl.SimplifyPath(p, most); got != nil {
				t.Errorf("SimplifyPath(%v, %d) = %v", p, most, got)
			}
			for _, kept := range [][]int{nil, {0}, {0, len(p) - 1}, all} {
				if impl.CheckSimplified(p, most, kept) {
					t.Errorf("CheckSimplified(%v, %d, %v) holds", p, most, kept)
				}
			}
		}
	}
}

func TestP110P112P113InvalidTolerances(t *testing.T) {
	for _, p := range [][]impl.Point{{xy(0, 0), xy(1, 0)}, {xy(0, 0), xy(1, 1), xy(2, 0)}, manyPoints(impl.MaxPoints)} {
		all := indicesWith(len(p), func(int) bool { return true })
		for _, most := range badTolerances() {
			if got := impl.SimplifyPath(p, most); got != nil {
				t.Errorf("SimplifyPath(%v, %d) = %v", p, most, got)
			}
			if impl.CheckSimplified(p, most, all) || impl.CheckSimplified(p, most, []int{0, len(p) - 1}) {
				t.Errorf("CheckSimplified(%v, %d) holds", p, most)
			}
		}
	}
}

func TestP110P112NumberOfPoints(t *testing.T) {
	for n := range 3 * impl.MaxPoints {
		p := manyPoints(min(n, 30))
		all := indicesWith(len(p), func(int) bool { return true })
		valid := n >= 2 && n <= 20
		var want []int
		if valid {
			want = all
		}
		if got := impl.SimplifyPath(p, 0); !slices.Equal(got, want) {
			t.Errorf("SimplifyPath of %d points = %v", n, got)
		}
		if impl.CheckSimplified(p, 0, all) != valid {
			t.Errorf("CheckSimplified of %d points = %v", n, !valid)
		}
	}
}

func TestP111WithoutAToleranceOnlyPointsOnSegmentsAreLeftOut(t *testing.T) {
	left := 0
	for _, p := range paths() {
		kept := impl.SimplifyPath(p, 0)
		for k := 1; k < len(kept); k++ {
			a, b := p[kept[k-1]], p[kept[k]]
			for i := kept[k-1] + 1; i < kept[k]; i++ {
				left++
				if a == b || !between(seg(a, b), p[i]) {
					t.Fatalf("SimplifyPath(%v, 0) = %v leaves out %d", p, kept, i)
				}
			}
		}
	}
	if left < 500 {
		t.Errorf("only %d points are left out", left)
	}
}

func TestP112ALargeToleranceKeepsOnlyTheEnds(t *testing.T) {
	for _, p := range paths() {
		if got := impl.SimplifyPath(p, impl.MaxSquare); !slices.Equal(got, []int{0, len(p) - 1}) {
			t.Fatalf("SimplifyPath(%v, MaxSquare) = %v", p, got)
		}
	}
}

func TestP113AllPointsAreAlwaysAccepted(t *testing.T) {
	r := fixedRandom()
	for _, p := range paths() {
		all := indicesWith(len(p), func(int) bool { return true })
		for _, most := range tolerances(r, p) {
			if !impl.CheckSimplified(p, most, all) {
				t.Fatalf("CheckSimplified(%v, %d) rejects all indices", p, most)
			}
		}
	}
}

// someIndices returns ascending indices of a list with n elements, both ends included.
func someIndices(r *rand.Rand, n int) []int {
	often := 1 + r.IntN(6)
	return indicesWith(n, func(i int) bool { return i == 0 || i == n-1 || r.IntN(often) == 0 })
}

func TestP113LargerTolerancesAcceptMore(t *testing.T) {
	accepted, rejected := 0, 0
	r := fixedRandom()
	for _, p := range paths() {
		for range 3 {
			kept := someIndices(r, len(p))
			before, last := slices.Clone(kept), false
			for _, most := range tolerances(r, p) {
				var got bool
				keepsPoints(t, "CheckSimplified", p, func(p []impl.Point) { got = impl.CheckSimplified(p, most, kept) })
				if got != wantAccepted(p, most, kept) || last && !got {
					t.Fatalf("CheckSimplified(%v, %d, %v) = %v", p, most, kept, got)
				}
				last = got
				if got {
					accepted++
				} else {
					rejected++
				}
			}
			if !slices.Equal(kept, before) {
				t.Fatalf("CheckSimplified changes %v to %v", before, kept)
			}
		}
	}
	if min(accepted, rejected) < 1000 {
		t.Errorf("only %d lists of indices are accepted and %d rejected", accepted, rejected)
	}
}

func TestP113AllSmallListsOfIndices(t *testing.T) {
	var some [][]int
	for n := range 6 {
		sequences(grid(6, 1, xy(-1, 0)), n, func(list []impl.Point) {
			var kept []int
			for _, p := range list {
				kept = append(kept, p.X)
			}
			some = append(some, kept)
		})
	}
	r := fixedRandom()
	for n := 2; n <= 4; n++ {
		for range 5 {
			p := randomPath(r, n)
			for most := range 4 {
				for _, kept := range some {
					if got := impl.CheckSimplified(p, most, kept); got != wantAccepted(p, most, kept) {
						t.Fatalf("CheckSimplified(%v, %d, %v) = %v", p, most, kept, got)
					}
				}
			}
		}
	}
}

// randomPath returns a path of n points with small coordinates.
func randomPath(r *rand.Rand, n int) []impl.Point {
	var p []impl.Point
	for len(p) < n {
		p = withoutRepeats(append(p, randomPoint(r, 2)))
	}
	return p
}

func TestP113InvalidIndices(t *testing.T) {
	hill := []impl.Point{xy(0, 0), xy(1, 1), xy(2, 0), xy(3, 5), xy(4, 0)}
	for _, kept := range [][]int{
		nil, {}, {0}, {4}, {2}, {0, 3}, {1, 4}, {1, 2, 3}, {0, 1, 2, 3}, {1, 2, 3, 4}, {4, 0}, {0, 0, 4}, {0, 4, 4}, {0, 2, 2, 4}, {0, 3, 2, 4}, {0, 2, 1, 3, 4},
		{0, 5}, {0, 4, 5}, {0, 5, 4}, {0, 100, 4}, {-1, 0, 4}, {-1, 4}, {0, -1, 4}, {0, 1, -1, 4}, {0, 4, 0, 4}, {0, math.MaxInt, 4}, {0, math.MinInt, 4}, {math.MinInt, math.MaxInt},
		{0, 1, 2, 3, 4, 4}, {0, 0, 1, 2, 3, 4}, {0, 1, 2, 3, 4, 5}, {4, 3, 2, 1, 0},
	} {
		if impl.CheckSimplified(hill, impl.MaxSquare, kept) {
			t.Errorf("CheckSimplified(%v) holds", kept)
		}
	}
	// These must not take long, though they are many.
	if impl.CheckSimplified(hill, impl.MaxSquare, append(make([]int, 10000000), 4)) {
		t.Error("CheckSimplified accepts ten million indices")
	}
}

func TestP113OrdinaryIndices(t *testing.T) {
	hill := []impl.Point{xy(0, 0), xy(1, 1), xy(2, 0), xy(3, 5), xy(4, 0)}
	closed := []impl.Point{xy(0, 0), xy(3, 4), xy(0, 0), xy(0, 2), xy(0, 0)}
	for _, c := range []struct {
		p    []impl.Point
		most int
		kept []int
		want bool
	}{
		{hill, 25, []int{0, 4}, true}, {hill, 24, []int{0, 4}, false}, {hill, 0, []int{0, 1, 2, 3, 4}, true}, {hill, 0, []int{0, 2, 3, 4}, false}, {hill, 1, []int{0, 2, 3, 4}, true},
		{hill, 2, []int{0, 3, 4}, false}, {hill, 3, []int{0, 3, 4}, true}, {hill, 3, []int{0, 1, 3, 4}, true}, {hill, 12, []int{0, 1, 2, 4}, false}, {hill, 25, []int{0, 2, 4}, true},
		{closed, 25, []int{0, 4}, true}, {closed, 24, []int{0, 4}, false}, {closed, 4, []int{0, 2, 4}, false}, {closed, 4, []int{0, 1, 4}, true}, {closed, 3, []int{0, 1, 2, 4}, false}, {closed, 4, []int{0, 1, 2, 4}, true},
		{[]impl.Point{xy(0, 0), xy(1, 0)}, 0, []int{0, 1}, true}, {[]impl.Point{xy(-1000, -1000), xy(1000, 1000), xy(-1000, -1000)}, 8000000, []int{0, 2}, true},
		{[]impl.Point{xy(-1000, -1000), xy(1000, 1000), xy(-1000, -1000)}, 7999999, []int{0, 2}, false},
	} {
		if got := impl.CheckSimplified(c.p, c.most, c.kept); got != c.want {
			t.Errorf("CheckSimplified(%v, %d, %v) = %v", c.p, c.most, c.kept, got)
		}
	}
}
