package tests

import (
	"math"
	"math/rand/v2"
	"slices"
	"testing"

	"loop.example/planargeometry/impl"
)

// box returns a rectangle with four coordinates.
func box(lowX int, lowY int, highX int, highY int) impl.Rect {
	return impl.Rect{Low: xy(lowX, lowY), High: xy(highX, highY)}
}

// boxes returns all rectangles with coordinates in 0..most.
func boxes(most int) []impl.Rect {
	var list []impl.Rect
	for _, low := range grid(most, most, xy(0, 0)) {
		for _, size := range grid(most-low.X, most-low.Y, xy(1, 1)) {
			list = append(list, impl.Rect{Low: low, High: shift(low, size)})
		}
	}
	return list
}

// randomBox returns a rectangle with coordinates in -most..most.
func randomBox(r *rand.Rand, most int) impl.Rect {
	a, b := randomPoint(r, most), randomPoint(r, most)
	for a.X == b.X || a.Y == b.Y {
		b = randomPoint(r, most)
	}
	return box(min(a.X, b.X), min(a.Y, b.Y), max(a.X, b.X), max(a.Y, b.Y))
}

// randomBoxes returns up to n rectangles with coordinates in -most..most.
func randomBoxes(r *rand.Rand, n int, most int) []impl.Rect {
	var list []impl.Rect
	for range r.IntN(n + 1) {
		list = append(list, randomBox(r, most))
	}
	return list
}

// boxCase is a list of rectangles with the areas that are covered at least once,
// twice and so on, and the lower left corner of the deepest cell.
type boxCase struct {
	list    []impl.Rect
	areas   []int
	deepest impl.Point
}

// namedBoxes returns rectangles that overlap, that only touch, and others.
func namedBoxes() map[string]boxCase {
	whole := box(-1000, -1000, 1000, 1000)
	return map[string]boxCase{
		"nothing":                 {nil, nil, xy(0, 0)},
		"an empty list":           {[]impl.Rect{}, nil, xy(0, 0)},
		"one":                     {[]impl.Rect{box(-3, 2, 4, 4)}, []int{14}, xy(-3, 2)},
		"two that overlap":        {[]impl.Rect{box(0, 0, 4, 4), box(2, 2, 6, 6)}, []int{28, 4}, xy(2, 2)},
		"two with a common side":  {[]impl.Rect{box(2, 0, 4, 3), box(0, 0, 2, 3)}, []int{12}, xy(0, 0)},
		"two with half a side":    {[]impl.Rect{box(0, 0, 3, 2), box(2, 2, 5, 4)}, []int{12}, xy(0, 0)},
		"two with a corner":       {[]impl.Rect{box(2, 2, 4, 4), box(0, 0, 2, 2)}, []int{8}, xy(0, 0)},
		"two with another corner": {[]impl.Rect{box(2, 0, 4, 2), box(0, 2, 2, 4)}, []int{8}, xy(0, 2)},
		"two that are apart":      {[]impl.Rect{box(5, 5, 6, 6), box(0, 0, 1, 1)}, []int{2}, xy(0, 0)},
		"two that are equal":      {[]impl.Rect{box(1, 2, 3, 5), box(1, 2, 3, 5)}, []int{6, 6}, xy(1, 2)},
		"one in another":          {[]impl.Rect{box(0, 0, 9, 9), box(2, 3, 5, 4)}, []int{81, 3}, xy(2, 3)},
		"one in a corner":         {[]impl.Rect{box(0, 0, 9, 9), box(7, 6, 9, 9)}, []int{81, 6}, xy(7, 6)},
		"a cross":                 {[]impl.Rect{box(0, 2, 6, 4), box(2, 0, 4, 6)}, []int{20, 4}, xy(2, 2)},
		"a frame":                 {[]impl.Rect{box(0, 0, 6, 1), box(0, 5, 6, 6), box(0, 0, 1, 6), box(5, 0, 6, 6)}, []int{20, 4}, xy(0, 0)},
		"four around one corner":  {[]impl.Rect{box(0, 0, 1, 1), box(-1, 0, 0, 1), box(-1, -1, 0, 0), box(0, -1, 1, 0)}, []int{4}, xy(-1, -1)},
		"three deep":              {[]impl.Rect{box(0, 0, 3, 3), box(1, 1, 4, 4), box(2, 2, 5, 5)}, []int{19, 7, 1}, xy(2, 2)},
		"the smallest X":          {[]impl.Rect{box(5, 0, 9, 9), box(5, 1, 9, 2), box(0, 0, 4, 9), box(2, 7, 4, 8)}, []int{72, 6}, xy(2, 7)},
		"the smallest Y":          {[]impl.Rect{box(0, 0, 9, 9), box(3, 6, 5, 8), box(3, -4, 4, -2), box(3, 1, 7, 2)}, []int{83, 8}, xy(3, 1)},
		"X before Y":              {[]impl.Rect{box(0, 0, 9, 9), box(3, 1, 5, 2), box(2, 7, 8, 8)}, []int{81, 8}, xy(2, 7)},
		"the largest one":         {[]impl.Rect{whole}, []int{4000000}, xy(-1000, -1000)},
		"the most":                {slices.Repeat([]impl.Rect{whole}, 12), slices.Repeat([]int{4000000}, 12), xy(-1000, -1000)},
		"small ones at the limit": {[]impl.Rect{box(999, 999, 1000, 1000), box(-1000, 999, -999, 1000), box(999, -1000, 1000, -999), whole}, []int{4000000, 3}, xy(-1000, 999)},
	}
}

// boxLists returns these lists and others.
func boxLists() [][]impl.Rect {
	var lists [][]impl.Rect
	for _, c := range namedBoxes() {
		lists = append(lists, c.list)
	}
	r := fixedRandom()
	for range 300 {
		lists = append(lists, randomBoxes(r, 4, 2), randomBoxes(r, impl.MaxRects, 3), randomBoxes(r, impl.MaxRects, 10), randomBoxes(r, impl.MaxRects, impl.MaxCoord))
	}
	return lists
}

// badBoxes returns rectangles that are not valid.
func badBoxes() []impl.Rect {
	list := []impl.Rect{
		{}, box(3, 3, 3, 3), box(0, 0, 0, 5), box(0, 0, 5, 0), box(1, 0, 0, 5), box(0, 1, 5, 0), box(5, 5, 0, 0),
		box(-1001, 0, 5, 5), box(0, -1001, 5, 5), box(0, 0, 1001, 5), box(0, 0, 5, 1001), box(1000, 0, 1001, 1), box(0, -1001, 1, -1000),
		box(math.MinInt, math.MinInt, math.MaxInt, math.MaxInt),
	}
	for _, p := range badPoints() {
		list = append(list, impl.Rect{Low: p, High: xy(9, 9)}, impl.Rect{Low: xy(-9, -9), High: p}, impl.Rect{Low: p, High: p})
	}
	return list
}

// badBoxLists returns lists of rectangles that are not valid.
func badBoxLists() [][]impl.Rect {
	good := box(-9, -9, 9, 9)
	lists := [][]impl.Rect{slices.Repeat([]impl.Rect{good}, impl.MaxRects+1), append(boxes(3)[:impl.MaxRects:impl.MaxRects], good), boxes(6)}
	for _, bad := range badBoxes() {
		lists = append(lists, []impl.Rect{bad}, []impl.Rect{bad, good, good}, []impl.Rect{good, bad, good}, []impl.Rect{good, good, bad})
		lists = append(lists, append(slices.Repeat([]impl.Rect{good}, impl.MaxRects-1), bad))
	}
	return lists
}

// hasSquare reports whether the square with the side 1 and a lower left corner is in a rectangle.
func hasSquare(r impl.Rect, p impl.Point) bool {
	return r.Low.X <= p.X && p.X+1 <= r.High.X && r.Low.Y <= p.Y && p.Y+1 <= r.High.Y
}

// depthAt returns the number of rectangles that have the square with the side 1 and a lower left corner.
func depthAt(list []impl.Rect, p impl.Point) int {
	n := 0
	for _, r := range list {
		if hasSquare(r, p) {
			n++
		}
	}
	return n
}

// areaOfBox returns the area of a rectangle.
func areaOfBox(r impl.Rect) int {
	return (r.High.X - r.Low.X) * (r.High.Y - r.Low.Y)
}

// patches returns the rectangles between neighbouring lines through borders of
// rectangles, in the order of their lower left corners.
func patches(list []impl.Rect) []impl.Rect {
	var xs, ys []int
	for _, r := range list {
		xs, ys = append(xs, r.Low.X, r.High.X), append(ys, r.Low.Y, r.High.Y)
	}
	slices.Sort(xs)
	slices.Sort(ys)
	xs, ys = slices.Compact(xs), slices.Compact(ys)
	var out []impl.Rect
	for i := 1; i < len(xs); i++ {
		for k := 1; k < len(ys); k++ {
			out = append(out, box(xs[i-1], ys[k-1], xs[i], ys[k]))
		}
	}
	return out
}

// wantArea returns the result that CoveredArea should have.
func wantArea(list []impl.Rect, depth int) int {
	area := 0
	for _, c := range patches(list) {
		if depthAt(list, c.Low) >= depth {
			area += areaOfBox(c)
		}
	}
	return area
}

// wantDeepest returns the results that MaxDepth should have.
func wantDeepest(list []impl.Rect) (int, impl.Point) {
	most, at := 0, xy(0, 0)
	for _, c := range patches(list) {
		if n := depthAt(list, c.Low); n > most {
			most, at = n, c.Low
		}
	}
	return most, at
}

// keepsBoxes fails the test if a function changes its list of rectangles.
func keepsBoxes(t *testing.T, name string, list []impl.Rect, f func(list []impl.Rect)) {
	t.Helper()
	array := append(slices.Clone(list), box(7, 7, 8, 8), box(8, 8, 9, 9))
	before := slices.Clone(array)
	f(array[:len(list)])
	if !slices.Equal(array, before) {
		t.Errorf("%s changes %v to %v", name, before, array)
	}
}

func TestValidRectsHaveALowerLeftCorner(t *testing.T) {
	for _, list := range append(boxLists(), boxes(3)[:12], boxes(3)[24:]) {
		keepsBoxes(t, "ValidRects", list, func(list []impl.Rect) {
			if !impl.ValidRects(list) {
				t.Errorf("ValidRects(%v) fails", list)
			}
		})
	}
	for _, list := range badBoxLists() {
		if impl.ValidRects(list) {
			t.Errorf("ValidRects(%v) holds", list)
		}
	}
	for n := range 3 * impl.MaxRects {
		if got := impl.ValidRects(boxes(3)[:n]); got != (n <= 12) {
			t.Errorf("ValidRects of %d rectangles = %v", n, got)
		}
	}
}

// checkCommonPart fails the test unless MeetRects of two valid rectangles is
// right: it has the squares that are in both of them, and nothing else.
func checkCommonPart(t *testing.T, a impl.Rect, b impl.Rect, squares []impl.Point) bool {
	t.Helper()
	r, ok := impl.MeetRects(a, b)
	if !ok && r != (impl.Rect{}) || ok && !impl.ValidRects([]impl.Rect{r}) {
		t.Fatalf("MeetRects(%v, %v) = %v, %v", a, b, r, ok)
	}
	for _, p := range squares {
		if both := hasSquare(a, p) && hasSquare(b, p); both != (ok && hasSquare(r, p)) {
			t.Fatalf("MeetRects(%v, %v) = %v, %v is wrong at %v", a, b, r, ok, p)
		}
	}
	if s, also := impl.MeetRects(b, a); s != r || also != ok {
		t.Fatalf("MeetRects(%v, %v) = %v, %v, but exchanged %v, %v", a, b, r, ok, s, also)
	}
	return ok
}

func TestP64CommonPartsAreInBothRectangles(t *testing.T) {
	met, apart := 0, 0
	for _, a := range boxes(4) {
		for _, b := range boxes(4) {
			if checkCommonPart(t, a, b, grid(6, 6, xy(-1, -1))) {
				met++
			} else {
				apart++
			}
		}
	}
	if min(met, apart) < 1000 {
		t.Errorf("only %d pairs meet and %d do not", met, apart)
	}
}

func TestP64LargeRectangles(t *testing.T) {
	r := fixedRandom()
	for range 2000 {
		a, b := randomBox(r, impl.MaxCoord), randomBox(r, impl.MaxCoord)
		var squares []impl.Point
		for _, x := range []int{a.Low.X, a.High.X, b.Low.X, b.High.X} {
			for _, y := range []int{a.Low.Y, a.High.Y, b.Low.Y, b.High.Y} {
				squares = append(squares, xy(x, y), xy(x-1, y), xy(x, y-1), xy(x-1, y-1))
			}
		}
		checkCommonPart(t, a, b, squares)
	}
}

func TestP64ARectangleMeetsItselfInItself(t *testing.T) {
	for _, list := range append(boxLists(), boxes(4)) {
		for _, r := range list {
			if s, ok := impl.MeetRects(r, r); !ok || s != r {
				t.Errorf("MeetRects(%v, %v) = %v, %v", r, r, s, ok)
			}
		}
	}
}

func TestP64OrdinaryCommonParts(t *testing.T) {
	a, none := box(0, 0, 4, 4), impl.Rect{}
	for name, c := range map[string]struct {
		b    impl.Rect
		want impl.Rect
	}{
		"overlap":        {box(2, 2, 6, 6), box(2, 2, 4, 4)},
		"another corner": {box(-2, 3, 1, 6), box(0, 3, 1, 4)},
		"equal":          {a, a},
		"inside":         {box(1, 2, 2, 3), box(1, 2, 2, 3)},
		"around":         {box(-1000, -1000, 1000, 1000), a},
		"a cross":        {box(-1, 1, 5, 2), box(0, 1, 4, 2)},
		"a right side":   {box(4, 0, 8, 4), none},
		"a left side":    {box(-4, 1, 0, 3), none},
		"an upper side":  {box(1, 4, 3, 5), none},
		"a lower side":   {box(0, -1, 4, 0), none},
		"a corner":       {box(4, 4, 5, 5), none},
		"a lower corner": {box(4, -1, 5, 0), none},
		"apart in X":     {box(5, 0, 6, 4), none},
		"apart in Y":     {box(0, 5, 4, 6), none},
		"a thin part":    {box(3, -5, 9, 9), box(3, 0, 4, 4)},
	} {
		r, ok := impl.MeetRects(a, c.b)
		if r != c.want || ok != (c.want != none) {
			t.Errorf("%s: MeetRects(%v, %v) = %v, %v, want %v", name, a, c.b, r, ok, c.want)
		}
	}
	// The limits themselves are valid.
	if r, ok := impl.MeetRects(box(-1000, -1000, 1000, 1000), box(999, 999, 1000, 1000)); !ok || r != box(999, 999, 1000, 1000) {
		t.Errorf("MeetRects at the limits = %v, %v", r, ok)
	}
}

func TestP64InvalidRectangles(t *testing.T) {
	for _, bad := range badBoxes() {
		for _, good := range []impl.Rect{box(-1000, -1000, 1000, 1000), box(0, 0, 5, 5), box(1, 1, 2, 2)} {
			for _, pair := range [][2]impl.Rect{{bad, good}, {good, bad}, {bad, bad}} {
				if r, ok := impl.MeetRects(pair[0], pair[1]); ok || r != (impl.Rect{}) {
					t.Errorf("MeetRects(%v) = %v, %v", pair, r, ok)
				}
			}
		}
	}
}

// checkAreas fails the test unless CoveredArea of valid rectangles is right for all depths.
func checkAreas(t *testing.T, list []impl.Rect, want func(depth int) int) {
	t.Helper()
	for depth := 1; depth <= len(list)+2; depth++ {
		if got := impl.CoveredArea(list, depth); got != want(depth) {
			t.Fatalf("CoveredArea(%v, %d) = %d, want %d", list, depth, got, want(depth))
		}
	}
}

func TestP65AreasOfUnionsAreBounded(t *testing.T) {
	for _, list := range boxLists() {
		keepsBoxes(t, "CoveredArea", list, func(list []impl.Rect) {
			checkAreas(t, list, func(depth int) int { return wantArea(list, depth) })
		})
		all := 0
		for _, r := range list {
			all += areaOfBox(r)
		}
		covered, before := 0, all
		for depth := 1; depth <= impl.MaxRects+1; depth++ {
			area := impl.CoveredArea(list, depth)
			if area > before || area < 0 || depth > len(list) && area != 0 {
				t.Fatalf("CoveredArea(%v, %d) = %d, but %d before", list, depth, area, before)
			}
			covered, before = covered+area, area
		}
		// A point in n rectangles counts for the depths 1 to n.
		if covered != all {
			t.Fatalf("the areas of %v are %d together, covered %d", list, all, covered)
		}
	}
}

func TestP65AreasAreNumbersOfSquares(t *testing.T) {
	some := boxes(3)
	squares := grid(3, 3, xy(0, 0))
	for _, a := range some {
		for _, b := range some {
			for _, c := range some {
				list := []impl.Rect{a, b, c}
				var count [4]int
				for _, p := range squares {
					count[depthAt(list, p)]++
				}
				for depth, want := range []int{-1, count[1] + count[2] + count[3], count[2] + count[3], count[3], 0} {
					if got := impl.CoveredArea(list, depth); got != want {
						t.Fatalf("CoveredArea(%v, %d) = %d, want %d", list, depth, got, want)
					}
				}
			}
		}
	}
}

func TestP65OrdinaryAreas(t *testing.T) {
	for name, c := range namedBoxes() {
		for depth := 1; depth <= 14; depth++ {
			want := 0
			if depth <= len(c.areas) {
				want = c.areas[depth-1]
			}
			if got := impl.CoveredArea(c.list, depth); got != want {
				t.Errorf("%s: CoveredArea(%v, %d) = %d, want %d", name, c.list, depth, got, want)
			}
		}
	}
}

func TestP65Depths(t *testing.T) {
	for _, list := range [][]impl.Rect{nil, {box(0, 0, 4, 4)}, slices.Repeat([]impl.Rect{box(0, 0, 4, 4)}, impl.MaxRects)} {
		for _, bad := range []int{0, -1, -2, math.MinInt} {
			if got := impl.CoveredArea(list, bad); got != -1 {
				t.Errorf("CoveredArea(%v, %d) = %d", list, bad, got)
			}
		}
		for _, large := range []int{13, 14, 1000000, math.MaxInt} {
			if got := impl.CoveredArea(list, large); got != 0 {
				t.Errorf("CoveredArea(%v, %d) = %d", list, large, got)
			}
		}
	}
}

func TestP65P66P67P143P144InvalidRectangles(t *testing.T) {
	for _, list := range badBoxLists() {
		for _, depth := range []int{1, 2, 12, 13, 0, -1} {
			if got := impl.CoveredArea(list, depth); got != -1 {
				t.Errorf("CoveredArea(%v, %d) = %d", list, depth, got)
			}
		}
		if n, p := impl.MaxDepth(list); n != -1 || p != (impl.Point{}) {
			t.Errorf("MaxDepth(%v) = %d, %v", list, n, p)
		}
	}
}

func TestP66UnionsOfTwoRectanglesAreCountedOnce(t *testing.T) {
	check := func(a, b impl.Rect) {
		common := 0
		if r, ok := impl.MeetRects(a, b); ok {
			common = areaOfBox(r)
		}
		list := []impl.Rect{a, b}
		if once := impl.CoveredArea(list, 1); once != areaOfBox(a)+areaOfBox(b)-common {
			t.Fatalf("CoveredArea(%v, 1) = %d, but the common part has %d", list, once, common)
		}
		if twice := impl.CoveredArea(list, 2); twice != common {
			t.Fatalf("CoveredArea(%v, 2) = %d, but the common part has %d", list, twice, common)
		}
	}
	for _, a := range boxes(4) {
		for _, b := range boxes(4) {
			check(a, b)
		}
	}
	r := fixedRandom()
	for range 2000 {
		check(randomBox(r, impl.MaxCoord), randomBox(r, impl.MaxCoord))
	}
}

func TestP67TheDeepestCellIsInAsManyRectangles(t *testing.T) {
	for _, list := range boxLists() {
		var most int
		var at impl.Point
		keepsBoxes(t, "MaxDepth", list, func(list []impl.Rect) { most, at = impl.MaxDepth(list) })
		if n, p := wantDeepest(list); most != n || at != p {
			t.Fatalf("MaxDepth(%v) = %d, %v, want %d, %v", list, most, at, n, p)
		}
		if depthAt(list, at) != most {
			t.Fatalf("MaxDepth(%v) = %d, %v, but %d rectangles have this cell", list, most, at, depthAt(list, at))
		}
		if most > 0 && impl.CoveredArea(list, most) <= 0 || impl.CoveredArea(list, most+1) != 0 {
			t.Fatalf("MaxDepth(%v) = %d disagrees with CoveredArea", list, most)
		}
	}
}

func TestP67TheDeepestOfAllSquares(t *testing.T) {
	some := boxes(3)
	squares := grid(3, 3, xy(0, 0)) // ordered by X, then by Y
	for _, a := range some {
		for _, b := range some {
			for _, c := range some {
				list := []impl.Rect{a, b, c}
				most, at := 0, xy(0, 0)
				for _, p := range squares {
					if n := depthAt(list, p); n > most {
						most, at = n, p
					}
				}
				if n, p := impl.MaxDepth(list); n != most || p != at {
					t.Fatalf("MaxDepth(%v) = %d, %v, want %d, %v", list, n, p, most, at)
				}
			}
		}
	}
}

func TestP67OrdinaryCells(t *testing.T) {
	for name, c := range namedBoxes() {
		if n, p := impl.MaxDepth(c.list); n != len(c.areas) || p != c.deepest {
			t.Errorf("%s: MaxDepth(%v) = %d, %v, want %d, %v", name, c.list, n, p, len(c.areas), c.deepest)
		}
	}
}

func TestP65P67RectanglesInAnyOrder(t *testing.T) {
	r := fixedRandom()
	for _, list := range boxLists() {
		other := slices.Clone(list)
		r.Shuffle(len(other), func(i, k int) { other[i], other[k] = other[k], other[i] })
		checkAreas(t, other, func(depth int) int { return impl.CoveredArea(list, depth) })
		n, p := impl.MaxDepth(list)
		if m, q := impl.MaxDepth(other); m != n || q != p {
			t.Fatalf("MaxDepth(%v) = %d, %v, in another order %d, %v", list, n, p, m, q)
		}
	}
}

// partsOf calls f for each part of a list of rectangles: the beginnings, the ends, and those without one rectangle.
func partsOf(list []impl.Rect, f func(part []impl.Rect)) {
	for i := range list {
		f(list[:i])
		f(list[i:])
		f(slices.Delete(slices.Clone(list), i, i+1))
	}
}

func TestP143MoreRectanglesAreDeeper(t *testing.T) {
	same, deeper := 0, 0
	for _, list := range boxLists() {
		all, _ := impl.MaxDepth(list)
		partsOf(list, func(part []impl.Rect) {
			n, _ := impl.MaxDepth(part)
			if want, _ := wantDeepest(part); n > all || n != want {
				t.Fatalf("MaxDepth(%v) = %d, but %d of %v", list, all, n, part)
			}
			if n == all {
				same++
			} else {
				deeper++
			}
		})
	}
	if min(same, deeper) < 1000 {
		t.Errorf("only %d are as deep and %d deeper", same, deeper)
	}
}

func TestP144MoreRectanglesCoverMore(t *testing.T) {
	same, more := 0, 0
	for _, list := range boxLists() {
		for depth := 1; depth <= 4; depth++ {
			all := impl.CoveredArea(list, depth)
			partsOf(list, func(part []impl.Rect) {
				area := impl.CoveredArea(part, depth)
				if area > all || area != wantArea(part, depth) {
					t.Fatalf("CoveredArea(%v, %d) = %d, but %d of %v", list, depth, all, area, part)
				}
				if area == all {
					same++
				} else {
					more++
				}
			})
		}
	}
	if min(same, more) < 1000 {
		t.Errorf("only %d cover as much and %d more", same, more)
	}
}
