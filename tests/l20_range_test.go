package tests

import (
	"math/rand/v2"
	"slices"
	"testing"

	"loop.example/planargeometry/impl"
)

// inBox reports whether a point is in a rectangle, its borders included.
func inBox(r impl.Rect, p impl.Point) bool {
	return r.Low.X <= p.X && p.X <= r.High.X && r.Low.Y <= p.Y && p.Y <= r.High.Y
}

// indicesWith returns the indices for which a test holds.
func indicesWith(n int, test func(i int) bool) []int {
	var list []int
	for i := range n {
		if test(i) {
			list = append(list, i)
		}
	}
	return list
}

// wantInBox returns the result that PointsInRect should have.
func wantInBox(list []impl.Point, r impl.Rect) []int {
	return indicesWith(len(list), func(i int) bool { return inBox(r, list[i]) })
}

// searchBoxes returns rectangles for lists of points with small and with large coordinates.
func searchBoxes() []impl.Rect {
	list := []impl.Rect{
		box(-1000, -1000, 1000, 1000), box(-2, -2, 2, 2), box(-1, -1, 1, 1), box(0, 0, 1, 1), box(-2, 0, 2, 1), box(0, -2, 1, 2),
		box(999, 999, 1000, 1000), box(-1000, -1000, -999, -999), box(-1000, -1000, 0, 1000), box(-1000, 0, 1000, 1000),
	}
	r := fixedRandom()
	for range 10 {
		list = append(list, randomBox(r, 3), randomBox(r, 200), randomBox(r, impl.MaxCoord))
	}
	return list
}

// keepsPoints fails the test if a function changes its list of points.
func keepsPoints(t *testing.T, name string, list []impl.Point, f func(list []impl.Point)) {
	t.Helper()
	keepsArgument(t, name, list, func(list []impl.Point) []impl.Point { f(list); return nil })
}

func TestP88RectanglesHaveTheirPoints(t *testing.T) {
	for _, list := range someLists() {
		for _, r := range searchBoxes() {
			var got []int
			keepsPoints(t, "PointsInRect", list, func(list []impl.Point) { got = impl.PointsInRect(list, r) })
			if want := wantInBox(list, r); !slices.Equal(got, want) {
				t.Fatalf("PointsInRect(%v, %v) = %v, want %v", list, r, got, want)
			}
		}
	}
}

func TestP88AllSmallRectangles(t *testing.T) {
	list := grid(4, 4, xy(0, 0))
	r := fixedRandom()
	for range 50 {
		for _, b := range boxes(3) {
			if got, want := impl.PointsInRect(list, b), wantInBox(list, b); !slices.Equal(got, want) {
				t.Fatalf("PointsInRect(%v, %v) = %v, want %v", list, b, got, want)
			}
		}
		r.Shuffle(len(list), func(i, k int) { list[i], list[k] = list[k], list[i] })
	}
}

func TestP88OrdinaryRectangles(t *testing.T) {
	list := []impl.Point{xy(1, 1), xy(5, 2), xy(3, 3), xy(2, 5), xy(4, 0), xy(3, 3)}
	for _, c := range []struct {
		r    impl.Rect
		want []int
	}{
		{box(1, 1, 3, 3), []int{0, 2, 5}}, {box(2, 2, 4, 4), []int{2, 5}}, {box(0, 0, 5, 5), []int{0, 1, 2, 3, 4, 5}}, {box(-9, -9, 0, 9), nil},
		{box(3, 0, 5, 3), []int{1, 2, 4, 5}}, {box(3, 3, 4, 4), []int{2, 5}}, {box(2, 2, 3, 3), []int{2, 5}}, {box(3, 2, 4, 3), []int{2, 5}}, {box(2, 3, 3, 4), []int{2, 5}},
		{box(1, 5, 9, 9), []int{3}}, {box(4, -5, 5, 0), []int{4}}, {box(5, 0, 6, 9), []int{1}}, {box(-3, 0, 1, 2), []int{0}},
	} {
		if got := impl.PointsInRect(list, c.r); !slices.Equal(got, c.want) {
			t.Errorf("PointsInRect(%v) = %v, want %v", c.r, got, c.want)
		}
	}
	corners := []impl.Point{xy(-1000, -1000), xy(1000, -1000), xy(1000, 1000), xy(-1000, 1000)}
	if got := impl.PointsInRect(corners, box(-1000, -1000, 1000, 1000)); !slices.Equal(got, []int{0, 1, 2, 3}) {
		t.Errorf("PointsInRect(%v) = %v", corners, got)
	}
	if got := impl.PointsInRect(nil, box(0, 0, 1, 1)); len(got) != 0 {
		t.Errorf("PointsInRect of nothing = %v", got)
	}
}

func TestP88P89P142InvalidRectangles(t *testing.T) {
	for _, bad := range badBoxes() {
		for _, list := range [][]impl.Point{nil, {xy(0, 0)}, {bad.Low, bad.High}, {xy(0, 0), xy(3, 3), xy(-5, 5)}} {
			if got := impl.PointsInRect(list, bad); got != nil {
				t.Errorf("PointsInRect(%v, %v) = %v", list, bad, got)
			}
		}
	}
}

func TestP88P90P92P93InvalidLists(t *testing.T) {
	for _, list := range badLists() {
		for name, got := range map[string][]int{
			"PointsInRect":   impl.PointsInRect(list, box(-1000, -1000, 1000, 1000)),
			"KdOrder":        impl.KdOrder(list),
			"DominatedCount": impl.DominatedCount(list),
			"Maxima":         impl.Maxima(list),
		} {
			if got != nil {
				t.Errorf("%s(%v) = %v", name, list, got)
			}
		}
	}
}

// joinedIndices returns the indices of both lists in ascending order, each once.
func joinedIndices(a []int, b []int) []int {
	list := slices.Concat(a, b)
	slices.Sort(list)
	return slices.Compact(list)
}

func TestP89ARectangleCanBeDivided(t *testing.T) {
	twice := 0
	check := func(list []impl.Point, whole impl.Rect, low impl.Rect, high impl.Rect) {
		a, b := impl.PointsInRect(list, low), impl.PointsInRect(list, high)
		if all := impl.PointsInRect(list, whole); !slices.Equal(joinedIndices(a, b), all) {
			t.Fatalf("PointsInRect(%v) has %v in %v, but %v and %v in its parts", list, all, whole, a, b)
		}
		if len(a)+len(b) > len(joinedIndices(a, b)) {
			twice++
		}
	}
	r := fixedRandom()
	for _, list := range someLists() {
		for _, b := range searchBoxes() {
			if b.High.X-b.Low.X > 1 {
				x := b.Low.X + 1 + r.IntN(b.High.X-b.Low.X-1)
				check(list, b, box(b.Low.X, b.Low.Y, x, b.High.Y), box(x, b.Low.Y, b.High.X, b.High.Y))
			}
			if b.High.Y-b.Low.Y > 1 {
				y := b.Low.Y + 1 + r.IntN(b.High.Y-b.Low.Y-1)
				check(list, b, box(b.Low.X, b.Low.Y, b.High.X, y), box(b.Low.X, y, b.High.X, b.High.Y))
			}
		}
	}
	if twice < 1000 {
		t.Errorf("only %d rectangles have points on the common border", twice)
	}
}

// isBefore reports whether the point with the index i is before that with the
// index k in the order of a k-d tree at some depth.
func isBefore(list []impl.Point, depth int, i int, k int) bool {
	first, second := list[i].X-list[k].X, list[i].Y-list[k].Y
	if depth%2 == 1 {
		first, second = second, first
	}
	if first != 0 {
		return first < 0
	}
	if second != 0 {
		return second < 0
	}
	return i < k
}

// partsAround returns those of some indices that are before and after another one of them.
func partsAround(list []impl.Point, depth int, some []int, root int) (before []int, after []int) {
	for _, i := range some {
		switch {
		case isBefore(list, depth, i, root):
			before = append(before, i)
		case i != root:
			after = append(after, i)
		}
	}
	return before, after
}

// wantKd returns the result that KdOrder should have for some of the indices.
// It looks for the one that has n/2 others before it, without sorting.
func wantKd(list []impl.Point, depth int, some []int) []int {
	for _, root := range some {
		before, after := partsAround(list, depth, some, root)
		if len(before) == len(some)/2 {
			return slices.Concat([]int{root}, wantKd(list, depth+1, before), wantKd(list, depth+1, after))
		}
	}
	return nil
}

// kdLists returns lists of all lengths: with equal points, with points of the
// same X or the same Y, in several orders.
func kdLists() [][]impl.Point {
	lists := someLists()
	r := fixedRandom()
	for n := range impl.MaxPoints + 1 {
		for range 5 {
			lists = append(lists, kdList(r, n, 1, 1), kdList(r, n, 1, 30), kdList(r, n, 30, 1), kdList(r, n, 2, 3), kdList(r, n, 6, 6), kdList(r, n, 900, 900))
		}
	}
	return lists
}

// kdList returns n points with an X in 0..w-1 and a Y in 0..h-1.
func kdList(r *rand.Rand, n int, w int, h int) []impl.Point {
	var list []impl.Point
	for range n {
		list = append(list, xy(r.IntN(w), r.IntN(h)))
	}
	return list
}

func TestP90ATreeHasEveryPointOnce(t *testing.T) {
	for _, list := range kdLists() {
		all := indicesWith(len(list), func(int) bool { return true })
		var got []int
		keepsPoints(t, "KdOrder", list, func(list []impl.Point) { got = impl.KdOrder(list) })
		if want := wantKd(list, 0, all); !slices.Equal(got, want) {
			t.Fatalf("KdOrder(%v) = %v, want %v", list, got, want)
		}
		if sorted := joinedIndices(got, nil); len(got) != len(list) || !slices.Equal(sorted, all) {
			t.Fatalf("KdOrder(%v) = %v is no permutation", list, got)
		}
		if len(list) == 0 {
			continue
		}
		before, after := partsAround(list, 0, all, got[0])
		if d := len(before) - len(after); d < 0 || d > 1 || len(before) != len(list)/2 {
			t.Fatalf("KdOrder(%v) = %v has %d points before the first one and %d after it", list, got, len(before), len(after))
		}
	}
}

func TestP90AllSmallLists(t *testing.T) {
	for n := range 6 {
		all := indicesWith(n, func(int) bool { return true })
		sequences(grid(2, 2, xy(0, 0)), n, func(list []impl.Point) {
			if got, want := impl.KdOrder(list), wantKd(list, 0, all); !slices.Equal(got, want) {
				t.Fatalf("KdOrder(%v) = %v, want %v", list, got, want)
			}
		})
	}
}

func TestP90OrdinaryTrees(t *testing.T) {
	for name, c := range map[string]struct {
		list []impl.Point
		want []int
	}{
		"nothing":            {nil, nil},
		"one point":          {[]impl.Point{xy(7, 7)}, []int{0}},
		"two points":         {[]impl.Point{xy(1, 0), xy(2, 0)}, []int{1, 0}},
		"two in other order": {[]impl.Point{xy(2, 0), xy(1, 0)}, []int{0, 1}},
		"two equal points":   {[]impl.Point{xy(1, 1), xy(1, 1)}, []int{1, 0}},
		"the same X":         {[]impl.Point{xy(1, 5), xy(1, 3), xy(1, 4)}, []int{2, 1, 0}},
		"the same Y":         {[]impl.Point{xy(5, 1), xy(3, 1), xy(4, 1)}, []int{2, 1, 0}},
		"equal points":       {make([]impl.Point, 7), []int{3, 1, 0, 2, 5, 4, 6}},
		"an even number":     {[]impl.Point{xy(0, 0), xy(1, 1), xy(2, 2), xy(3, 3)}, []int{2, 1, 0, 3}},
		"exchanged":          {[]impl.Point{xy(0, 9), xy(1, 1), xy(2, 5), xy(9, 0), xy(10, 7), xy(11, 4), xy(12, 3)}, []int{3, 2, 1, 0, 5, 6, 4}},
		"Y, then X":          {[]impl.Point{xy(2, 5), xy(0, 5), xy(1, 5), xy(9, 0), xy(12, 1), xy(11, 1), xy(10, 1)}, []int{3, 2, 1, 0, 5, 6, 4}},
		"X again":            {[]impl.Point{xy(0, 1), xy(3, 0), xy(1, 2), xy(2, 8), xy(4, 9), xy(0, 7), xy(1, 6), xy(5, 5), xy(9, 9)}, []int{3, 6, 2, 0, 5, 4, 7, 1, 8}},
	} {
		if got := impl.KdOrder(c.list); !slices.Equal(got, c.want) {
			t.Errorf("%s: KdOrder(%v) = %v, want %v", name, c.list, got, c.want)
		}
	}
}

// checkParts fails the test unless the indices before the first one of an order
// are ahead of those after it, here and in both parts.
func checkParts(t *testing.T, list []impl.Point, depth int, order []int) {
	t.Helper()
	if len(order) == 0 {
		return
	}
	root, rest := order[0], order[1:]
	before, after := partsAround(list, depth, rest, root)
	if !slices.Equal(slices.Concat(before, after), rest) {
		t.Fatalf("in %v, %v has %v before and %v after the first one", list, order, before, after)
	}
	checkParts(t, list, depth+1, before)
	checkParts(t, list, depth+1, after)
}

func TestP91PartsOfATreeAreTogether(t *testing.T) {
	for _, list := range kdLists() {
		checkParts(t, list, 0, impl.KdOrder(list))
	}
}

// atLeast reports whether both coordinates of a point are at least those of another one.
func atLeast(p impl.Point, q impl.Point) bool {
	return p.X >= q.X && p.Y >= q.Y
}

// wantDominated returns the result that DominatedCount should have.
func wantDominated(list []impl.Point) []int {
	counts := make([]int, len(list))
	for i, p := range list {
		for k, q := range list {
			if i != k && atLeast(p, q) {
				counts[i]++
			}
		}
	}
	return counts
}

func TestP92DominatedPointsAreCounted(t *testing.T) {
	for _, list := range kdLists() {
		var got []int
		keepsPoints(t, "DominatedCount", list, func(list []impl.Point) { got = impl.DominatedCount(list) })
		if want := wantDominated(list); !slices.Equal(got, want) {
			t.Fatalf("DominatedCount(%v) = %v, want %v", list, got, want)
		}
		n, all := len(list), 0
		for _, count := range got {
			all += count
			if count < 0 || count >= n {
				t.Fatalf("DominatedCount(%v) = %v", list, got)
			}
		}
		if different := len(impl.SortPoints(list)) == n; different && all > n*(n-1)/2 {
			t.Fatalf("DominatedCount(%v) = %v for different points", list, got)
		}
	}
}

func TestP92OrdinaryCounts(t *testing.T) {
	row := indicesWith(impl.MaxPoints, func(int) bool { return true })
	for name, c := range map[string]struct {
		list []impl.Point
		want []int
	}{
		"nothing":      {nil, nil},
		"one point":    {[]impl.Point{xy(3, 3)}, []int{0}},
		"equal points": {[]impl.Point{xy(3, 3), xy(3, 3), xy(3, 3)}, []int{2, 2, 2}},
		"two equal":    {[]impl.Point{xy(3, 3), xy(0, 0), xy(3, 3)}, []int{2, 0, 2}},
		"the same X":   {[]impl.Point{xy(1, 5), xy(1, 3), xy(1, 4)}, []int{2, 0, 1}},
		"the same Y":   {[]impl.Point{xy(5, 1), xy(3, 1), xy(4, 1)}, []int{2, 0, 1}},
		"a staircase":  {[]impl.Point{xy(0, 3), xy(1, 2), xy(2, 1), xy(3, 0)}, []int{0, 0, 0, 0}},
		"a square":     {[]impl.Point{xy(0, 0), xy(1, 0), xy(0, 1), xy(1, 1)}, []int{0, 1, 1, 3}},
		"the most":     {manyPoints(impl.MaxPoints), row},
		"five points":  {[]impl.Point{xy(1, 1), xy(5, 2), xy(3, 3), xy(2, 5), xy(4, 0)}, []int{0, 2, 1, 1, 0}},
	} {
		if got := impl.DominatedCount(c.list); !slices.Equal(got, c.want) {
			t.Errorf("%s: DominatedCount(%v) = %v, want %v", name, c.list, got, c.want)
		}
	}
}

func TestP93EveryPointIsDominatedByAMaximum(t *testing.T) {
	for _, list := range kdLists() {
		var got []int
		keepsPoints(t, "Maxima", list, func(list []impl.Point) { got = impl.Maxima(list) })
		want := indicesWith(len(list), func(i int) bool {
			return !slices.ContainsFunc(list, func(q impl.Point) bool { return q != list[i] && atLeast(q, list[i]) })
		})
		if !slices.Equal(got, want) {
			t.Fatalf("Maxima(%v) = %v, want %v", list, got, want)
		}
		for _, p := range list {
			if !slices.ContainsFunc(got, func(i int) bool { return atLeast(list[i], p) }) {
				t.Fatalf("Maxima(%v) = %v, none of which is at least %v", list, got, p)
			}
		}
		for _, i := range got {
			for _, k := range got {
				if list[i] != list[k] && atLeast(list[i], list[k]) {
					t.Fatalf("Maxima(%v) = %v, but %d dominates %d", list, got, i, k)
				}
			}
		}
	}
}

func TestP93OrdinaryMaxima(t *testing.T) {
	for name, c := range map[string]struct {
		list []impl.Point
		want []int
	}{
		"nothing":      {nil, nil},
		"one point":    {[]impl.Point{xy(3, 3)}, []int{0}},
		"equal points": {[]impl.Point{xy(3, 3), xy(3, 3), xy(3, 3)}, []int{0, 1, 2}},
		"equal maxima": {[]impl.Point{xy(3, 3), xy(0, 0), xy(3, 3), xy(0, 5), xy(3, 2)}, []int{0, 2, 3}},
		"the same X":   {[]impl.Point{xy(1, 5), xy(1, 3), xy(1, 6)}, []int{2}},
		"the same Y":   {[]impl.Point{xy(5, 1), xy(3, 1), xy(4, 1)}, []int{0}},
		"a staircase":  {[]impl.Point{xy(3, 0), xy(1, 2), xy(2, 1), xy(0, 3)}, []int{0, 1, 2, 3}},
		"a square":     {[]impl.Point{xy(1, 1), xy(1, 0), xy(0, 1), xy(0, 0)}, []int{0}},
		"the limits":   {[]impl.Point{xy(-1000, 1000), xy(1000, -1000), xy(-1000, -1000)}, []int{0, 1}},
		"five points":  {[]impl.Point{xy(1, 1), xy(5, 2), xy(3, 3), xy(2, 5), xy(4, 0)}, []int{1, 2, 3}},
	} {
		if got := impl.Maxima(c.list); !slices.Equal(got, c.want) {
			t.Errorf("%s: Maxima(%v) = %v, want %v", name, c.list, got, c.want)
		}
	}
}

func TestP94ExtremePointsAreMaxima(t *testing.T) {
	for _, list := range kdLists() {
		if len(list) == 0 {
			continue
		}
		if i := impl.Extreme(list, xy(1, 1)); !slices.Contains(impl.Maxima(list), i) {
			t.Fatalf("Extreme(%v) = %d, but Maxima = %v", list, i, impl.Maxima(list))
		}
	}
}

func TestP142CornersAreInTheirRectangle(t *testing.T) {
	r := fixedRandom()
	for _, b := range slices.Concat(searchBoxes(), boxes(3)) {
		corners := []impl.Point{b.Low, b.High}
		if got := impl.PointsInRect(corners, b); !slices.Equal(got, []int{0, 1}) {
			t.Fatalf("PointsInRect(%v, %v) = %v", corners, b, got)
		}
		corners = append(corners, xy(b.Low.X, b.High.Y), xy(b.High.X, b.Low.Y))
		for range 10 {
			list := append(largeList(r, impl.MaxPoints-4), corners...)
			got := impl.PointsInRect(list, b)
			for i := len(list) - 4; i < len(list); i++ {
				if !slices.Contains(got, i) {
					t.Fatalf("PointsInRect(%v, %v) = %v without the corner %v", list, b, got, list[i])
				}
			}
		}
	}
}
