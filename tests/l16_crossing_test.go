package tests

import (
	"math/rand/v2"
	"slices"
	"testing"

	"loop.example/planargeometry/impl"
)

// segs returns the segments with groups of four coordinates.
func segs(n ...int) []impl.Segment {
	var list []impl.Segment
	for i := 0; i+3 < len(n); i += 4 {
		list = append(list, seg4(n[i], n[i+1], n[i+2], n[i+3]))
	}
	return list
}

// indexPairs returns the pairs with pairs of indices.
func indexPairs(n ...int) []impl.Pair {
	var list []impl.Pair
	for i := 0; i+1 < len(n); i += 2 {
		list = append(list, impl.Pair{A: n[i], B: n[i+1]})
	}
	return list
}

// wholePoint returns a point with integer coordinates as a point with fractions.
func wholePoint(x int, y int) impl.RatPoint {
	return ratPoint(ratio(x, 1), ratio(y, 1))
}

// segmentCase is a list of segments with the results for it.
type segmentCase struct {
	list    []impl.Segment
	meeting []impl.Pair
	points  []impl.RatPoint
	drawing bool
}

// namedSegments returns segments that cross, that touch, that are on one line, and others.
func namedSegments() map[string]segmentCase {
	limits := segs(-1000, -1000, 1000, 999, -1000, 1000, 1000, -1000)
	return map[string]segmentCase{
		"nothing":            {nil, nil, nil, true},
		"an empty list":      {[]impl.Segment{}, nil, nil, true},
		"one":                {segs(1, 2, 3, 4), nil, nil, true},
		"apart":              {segs(0, 0, 1, 0, 0, 1, 1, 1, 0, 2, 1, 2), nil, nil, true},
		"a crossing":         {segs(0, 0, 4, 4, 0, 4, 4, 0), indexPairs(0, 1), []impl.RatPoint{wholePoint(2, 2)}, false},
		"a fraction":         {segs(0, 0, 3, 1, 0, 1, 1, 0), indexPairs(0, 1), []impl.RatPoint{ratPoint(ratio(3, 4), ratio(1, 4))}, false},
		"a common end":       {segs(0, 0, 2, 2, 2, 2, 4, 0), indexPairs(0, 1), nil, true},
		"other common ends":  {segs(2, 2, 0, 0, 4, 0, 2, 2, 2, 2, 2, 9, 2, -9, 2, 2), indexPairs(0, 1, 0, 2, 0, 3, 1, 2, 1, 3, 2, 3), nil, true},
		"an end inside":      {segs(0, 0, 4, 0, 2, 0, 2, 5), indexPairs(0, 1), nil, false},
		"another end inside": {segs(2, 0, 2, 5, 0, 0, 4, 0), indexPairs(0, 1), nil, false},
		"equal ones":         {segs(0, 0, 4, 0, 0, 0, 4, 0), indexPairs(0, 1), nil, false},
		"turned ones":        {segs(0, 0, 4, 0, 4, 0, 0, 0), indexPairs(0, 1), nil, false},
		"one line, apart":    {segs(0, 0, 1, 1, 2, 2, 3, 3), nil, nil, true},
		"one line, a common end": {
			segs(0, 0, 1, 1, 3, 3, 1, 1), indexPairs(0, 1), nil, true},
		"one line, an overlap": {
			segs(0, 0, 2, 2, 1, 1, 3, 3), indexPairs(0, 1), nil, false},
		"one line, an overlap with a common end": {
			segs(0, 0, 2, 2, 0, 0, 3, 3), indexPairs(0, 1), nil, false},
		"one line, another overlap with a common end": {
			segs(0, 0, 3, 3, 3, 3, 1, 1), indexPairs(0, 1), nil, false},
		"one line, one inside": {
			segs(1, 1, 2, 2, 0, 0, 3, 3), indexPairs(0, 1), nil, false},
		"one line, three parts": {
			segs(0, 0, 1, 2, 1, 2, 2, 4, 2, 4, 3, 6), indexPairs(0, 1, 1, 2), nil, true},
		"three through one point": {
			segs(-2, -2, 2, 2, -2, 2, 2, -2, -2, 0, 2, 0), indexPairs(0, 1, 0, 2, 1, 2), []impl.RatPoint{wholePoint(0, 0)}, false},
		"a crossing at an end of a third": {
			segs(-2, -2, 2, 2, -2, 2, 2, -2, 0, 0, 2, 0), indexPairs(0, 1, 0, 2, 1, 2), []impl.RatPoint{wholePoint(0, 0)}, false},
		"the order by X, then by Y": {
			segs(5, 0, 5, 9, 0, 7, 9, 7, 0, 2, 9, 2, 2, 0, 2, 9, -3, 3, 9, 3), indexPairs(0, 1, 0, 2, 0, 4, 1, 3, 2, 3, 3, 4),
			[]impl.RatPoint{wholePoint(2, 2), wholePoint(2, 3), wholePoint(2, 7), wholePoint(5, 2), wholePoint(5, 3), wholePoint(5, 7)}, false},
		"the order of fractions": {
			segs(-1, 0, 1, 1, -1, 1, 0, -1, 0, 1, 1, 0), indexPairs(0, 1, 0, 2),
			[]impl.RatPoint{ratPoint(ratio(-3, 5), ratio(1, 5)), ratPoint(ratio(1, 3), ratio(2, 3))}, false},
		"the last two": {
			segs(0, 0, 1, 0, 0, 9, 1, 9, 4, 4, 6, 6, 4, 6, 6, 4), indexPairs(2, 3), []impl.RatPoint{wholePoint(5, 5)}, false},
		"a triangle": {
			segs(0, 0, 4, 0, 4, 0, 0, 4, 0, 4, 0, 0), indexPairs(0, 1, 0, 2, 1, 2), nil, true},
		"a triangle and a point of a side": {
			segs(0, 0, 4, 0, 4, 0, 0, 4, 0, 4, 0, 0, 2, 0, 0, 4), indexPairs(0, 1, 0, 2, 0, 3, 1, 2, 1, 3, 2, 3), nil, false},
		"the limits": {limits, indexPairs(0, 1), []impl.RatPoint{ratPoint(ratio(1000, 3999), ratio(-1000, 3999))}, false},
	}
}

// joined reports whether the only common point of segments that touch is an end of both.
func joined(s impl.Segment, u impl.Segment, p impl.RatPoint) bool {
	x, y := fromRat(p.X), fromRat(p.Y)
	return isEnd(s, x, y) && isEnd(u, x, y)
}

// wantSegments returns the results that the functions of the chapter should have.
func wantSegments(list []impl.Segment) segmentCase {
	want := segmentCase{list: list, drawing: true}
	for a, s := range list {
		for b := a + 1; b < len(list); b++ {
			n, p := meeting(s, list[b])
			if n == impl.Apart {
				continue
			}
			want.meeting = append(want.meeting, impl.Pair{A: a, B: b})
			if n == impl.Crossing {
				want.points = append(want.points, p)
			}
			want.drawing = want.drawing && n == impl.Touch && joined(s, list[b], p)
		}
	}
	slices.SortFunc(want.points, compareRatPoints)
	want.points = slices.Compact(want.points)
	return want
}

// edgesOf returns the edges of a polygon.
func edgesOf(p []impl.Point) []impl.Segment {
	var list []impl.Segment
	for i := range p {
		list = append(list, edge(p, i))
	}
	return list
}

// randomSegments returns up to n segments with coordinates in -most..most.
func randomSegments(r *rand.Rand, n int, most int) []impl.Segment {
	var list []impl.Segment
	for range r.IntN(n + 1) {
		s := seg(randomPoint(r, most), randomPoint(r, most))
		for s.A == s.B {
			s.B = randomPoint(r, most)
		}
		list = append(list, s)
	}
	return list
}

// segmentsThrough returns up to MaxSegments segments that have a point, some of them as an end.
func segmentsThrough(r *rand.Rand, p impl.Point) []impl.Segment {
	var list []impl.Segment
	for range r.IntN(impl.MaxSegments + 1) {
		step := randomPoint(r, 2)
		from, to := -r.IntN(3), 1+r.IntN(3)
		if step != xy(0, 0) {
			list = append(list, seg(shift(p, xy(from*step.X, from*step.Y)), shift(p, xy(to*step.X, to*step.Y))))
		}
	}
	return list
}

// segmentsOnLine returns up to MaxSegments segments of one line, in both directions.
func segmentsOnLine(r *rand.Rand) []impl.Segment {
	var list []impl.Segment
	from, step := randomPoint(r, 100), randomPoint(r, 3)
	for range r.IntN(impl.MaxSegments + 1) {
		i, k := r.IntN(12), r.IntN(12)
		if i != k && step != xy(0, 0) {
			list = append(list, seg(shift(from, xy(i*step.X, i*step.Y)), shift(from, xy(k*step.X, k*step.Y))))
		}
	}
	return list
}

// drawings returns the edges of polygons, with and without a diagonal, and parts of lines.
func drawings() [][]impl.Segment {
	var lists [][]impl.Segment
	for _, p := range allPolygons() {
		if len(p) > impl.MaxSegments {
			lists = append(lists, edgesOf(p)[:impl.MaxSegments])
			continue
		}
		lists = append(lists, edgesOf(p))
		if len(p) < impl.MaxSegments {
			lists = append(lists, append(edgesOf(p), seg(p[0], p[2])))
		}
	}
	return lists
}

// segmentLists returns all of these lists, and others.
func segmentLists() [][]impl.Segment {
	lists := drawings()
	for _, c := range namedSegments() {
		lists = append(lists, c.list)
	}
	r := fixedRandom()
	for range 300 {
		lists = append(lists, randomSegments(r, 4, 1), randomSegments(r, impl.MaxSegments, 2), randomSegments(r, impl.MaxSegments, 5))
		lists = append(lists, randomSegments(r, 3, impl.MaxCoord), randomSegments(r, impl.MaxSegments, impl.MaxCoord))
		lists = append(lists, segmentsThrough(r, randomPoint(r, 50)), segmentsOnLine(r))
	}
	return lists
}

// badSegmentLists returns lists of segments that are not valid.
func badSegmentLists() [][]impl.Segment {
	good := segs(0, 0, 4, 4, 0, 4, 4, 0)
	lists := [][]impl.Segment{
		slices.Repeat(good, 7)[:impl.MaxSegments+1], someSegments(), edgesOf(manyPoints(impl.MaxVertices)), edgesOf(manyPoints(impl.MaxSegments + 1)),
	}
	for _, bad := range badSegments() {
		lists = append(lists, []impl.Segment{bad}, []impl.Segment{bad, good[0], good[1]}, []impl.Segment{good[0], bad, good[1]}, []impl.Segment{good[0], good[1], bad})
		lists = append(lists, append(slices.Repeat(good, 6)[:impl.MaxSegments-1:impl.MaxSegments-1], bad))
	}
	return lists
}

// keepsSegments fails the test if a function changes its list of segments.
func keepsSegments(t *testing.T, name string, list []impl.Segment, f func(list []impl.Segment)) {
	t.Helper()
	array := append(slices.Clone(list), segs(7, 7, 8, 8, 8, 8, 9, 9)...)
	before := slices.Clone(array)
	f(array[:len(list)])
	if !slices.Equal(array, before) {
		t.Errorf("%s changes %v to %v", name, before, array)
	}
}

func TestP68PairsAreThoseThatMeet(t *testing.T) {
	for _, list := range segmentLists() {
		got, want := impl.MeetingPairs(list), wantSegments(list).meeting
		if !slices.Equal(got, want) {
			t.Fatalf("MeetingPairs(%v) = %v, want %v", list, got, want)
		}
		for a, s := range list {
			for b, u := range list {
				listed := slices.Contains(got, impl.Pair{A: a, B: b})
				if listed != (a < b && impl.Relation(s, u) != impl.Apart) {
					t.Fatalf("MeetingPairs(%v) = %v is wrong for %d and %d", list, got, a, b)
				}
			}
		}
		keepsSegments(t, "MeetingPairs", list, func(list []impl.Segment) { impl.MeetingPairs(list) })
	}
}

func TestP68P69P70OrdinarySegments(t *testing.T) {
	for name, c := range namedSegments() {
		if got := impl.MeetingPairs(c.list); !slices.Equal(got, c.meeting) {
			t.Errorf("%s: MeetingPairs(%v) = %v, want %v", name, c.list, got, c.meeting)
		}
		if got := impl.CrossingPoints(c.list); !slices.Equal(got, c.points) {
			t.Errorf("%s: CrossingPoints(%v) = %v, want %v", name, c.list, textOf(got), textOf(c.points))
		}
		if got := impl.IsDrawing(c.list); got != c.drawing {
			t.Errorf("%s: IsDrawing(%v) = %v", name, c.list, got)
		}
	}
}

func TestP68P69P70AllTriplesOfSegments(t *testing.T) {
	some := segmentsBetween(grid(2, 2, xy(0, 0)))
	some = append(some, segs(-1, -1, 2, 2, 0, 2, 2, 0, -1, 0, 2, 0, 3, 3, 1, 1)...)
	drawings := 0
	for _, a := range some {
		for _, b := range some {
			for _, c := range some {
				list := []impl.Segment{a, b, c}
				want := wantSegments(list)
				if !slices.Equal(impl.MeetingPairs(list), want.meeting) || !slices.Equal(impl.CrossingPoints(list), want.points) {
					t.Fatalf("MeetingPairs(%v) = %v, CrossingPoints = %v", list, impl.MeetingPairs(list), impl.CrossingPoints(list))
				}
				if impl.IsDrawing(list) != want.drawing {
					t.Fatalf("IsDrawing(%v) = %v", list, !want.drawing)
				}
				if want.drawing {
					drawings++
				}
			}
		}
	}
	if drawings < 300 {
		t.Errorf("only %d drawings", drawings)
	}
}

func TestP69CrossingsAreMeetingPoints(t *testing.T) {
	count := 0
	for _, list := range segmentLists() {
		got, want := impl.CrossingPoints(list), wantSegments(list).points
		if !slices.Equal(got, want) {
			t.Fatalf("CrossingPoints(%v) = %v, want %v", list, textOf(got), textOf(want))
		}
		var points []impl.RatPoint
		for a, s := range list {
			for _, u := range list[a+1:] {
				if p, _ := impl.MeetPoint(s, u); impl.Relation(s, u) == impl.Crossing {
					points = append(points, p)
				}
			}
		}
		for _, p := range points {
			if !slices.Contains(got, p) {
				t.Fatalf("CrossingPoints(%v) = %v is without %v", list, textOf(got), p)
			}
		}
		for _, p := range got {
			if !slices.Contains(points, p) || !impl.ValidRat(p.X) || !impl.ValidRat(p.Y) {
				t.Fatalf("CrossingPoints(%v) = %v has %v", list, textOf(got), p)
			}
		}
		count += len(points) - len(got)
		keepsSegments(t, "CrossingPoints", list, func(list []impl.Segment) { impl.CrossingPoints(list) })
	}
	if count < 500 {
		t.Errorf("only %d crossings of further pairs in the same point", count)
	}
}

// shuffled returns segments in another order, some of them with exchanged ends.
func shuffled(r *rand.Rand, list []impl.Segment) []impl.Segment {
	var out []impl.Segment
	for _, i := range r.Perm(len(list)) {
		s := list[i]
		if r.IntN(2) == 0 {
			s = turned(s)
		}
		out = append(out, s)
	}
	return out
}

func TestP69P70SegmentsInAnyOrder(t *testing.T) {
	r := fixedRandom()
	for _, list := range segmentLists() {
		other := shuffled(r, list)
		if got, want := impl.CrossingPoints(other), impl.CrossingPoints(list); !slices.Equal(got, want) {
			t.Fatalf("CrossingPoints(%v) = %v, in another order %v", list, textOf(want), textOf(got))
		}
		if impl.IsDrawing(other) != impl.IsDrawing(list) || len(impl.MeetingPairs(other)) != len(impl.MeetingPairs(list)) {
			t.Fatalf("IsDrawing or MeetingPairs of %v depends on the order", list)
		}
	}
}

func TestP70DrawingsHaveNoCrossings(t *testing.T) {
	held, failed := 0, 0
	for _, list := range segmentLists() {
		got := impl.IsDrawing(list)
		if got != wantSegments(list).drawing {
			t.Fatalf("IsDrawing(%v) = %v", list, got)
		}
		keepsSegments(t, "IsDrawing", list, func(list []impl.Segment) { impl.IsDrawing(list) })
		if !got {
			failed++
			continue
		}
		held++
		if points := impl.CrossingPoints(list); len(points) > 0 {
			t.Fatalf("IsDrawing(%v) holds, but CrossingPoints = %v", list, textOf(points))
		}
		for i := range list {
			for _, part := range [][]impl.Segment{list[:i], list[i:], slices.Delete(slices.Clone(list), i, i+1)} {
				if !impl.IsDrawing(part) {
					t.Fatalf("IsDrawing(%v) holds, but not for %v", list, part)
				}
			}
		}
	}
	if min(held, failed) < 300 {
		t.Errorf("only %d lists are drawings and %d are not", held, failed)
	}
}

func TestP71SimplePolygonsAreDrawings(t *testing.T) {
	few, many := 0, 0
	for _, p := range allPolygons() {
		for _, q := range [][]impl.Point{p, reversed(p)} {
			got := impl.IsDrawing(edgesOf(q))
			if got != (len(q) <= impl.MaxSegments) || !impl.IsSimple(q) {
				t.Fatalf("IsDrawing of the edges of %v = %v", q, got)
			}
			if got {
				few++
			} else {
				many++
			}
		}
	}
	if min(few, many) < 100 {
		t.Errorf("only %d polygons have few edges and %d many", few, many)
	}
}

func TestP71OtherPolygonsAreNoDrawings(t *testing.T) {
	for _, name := range []string{"crossing edges", "a flat triangle", "another one", "a flat quadrangle", "a spike", "a vertex on an edge", "an edge on an edge", "a pentagram", "there and back"} {
		if p := notSimple()[name]; len(p) == 0 || impl.IsDrawing(edgesOf(p)) {
			t.Errorf("IsDrawing holds for %s: %v", name, p)
		}
	}
	// Polygons that meet in a vertex are a drawing, though not simple.
	if p := notSimple()["a vertex twice"]; len(p) == 0 || !impl.IsDrawing(edgesOf(p)) {
		t.Errorf("IsDrawing of the edges of %v fails", p)
	}
}

func TestP68P69P70P71Limits(t *testing.T) {
	var fan []impl.Segment
	for i := range impl.MaxSegments + 1 {
		fan = append(fan, seg4(-1000, 0, 1000, 10*i))
	}
	most, more := fan[:impl.MaxSegments], fan
	if n := len(impl.MeetingPairs(most)); n != 66 || !impl.IsDrawing(most) || impl.CrossingPoints(most) != nil {
		t.Errorf("%d segments have %d pairs, or are no drawing", len(most), n)
	}
	if impl.MeetingPairs(more) != nil || impl.CrossingPoints(more) != nil || impl.IsDrawing(more) {
		t.Errorf("%d segments are accepted", len(more))
	}
	if p := manyPoints(impl.MaxSegments); !impl.IsDrawing(edgesOf(p)) || len(impl.MeetingPairs(edgesOf(p))) != impl.MaxSegments {
		t.Errorf("the edges of a polygon with %d vertices are no drawing", len(p))
	}
	var rows, columns []impl.Segment
	for i := range impl.MaxSegments / 2 {
		rows, columns = append(rows, seg4(-1000, i, 1000, i)), append(columns, seg4(i, -1000, i, 1000))
	}
	var want []impl.RatPoint
	for _, p := range grid(len(rows), len(columns), xy(0, 0)) {
		want = append(want, wholePoint(p.X, p.Y))
	}
	if got := impl.CrossingPoints(append(rows, columns...)); !slices.Equal(got, want) {
		t.Errorf("CrossingPoints of a grid = %v", textOf(got))
	}
}

func TestP68P69P70P71InvalidSegments(t *testing.T) {
	for _, list := range badSegmentLists() {
		if pairs := impl.MeetingPairs(list); pairs != nil {
			t.Errorf("MeetingPairs(%v) = %v", list, pairs)
		}
		if points := impl.CrossingPoints(list); points != nil {
			t.Errorf("CrossingPoints(%v) = %v", list, textOf(points))
		}
		if impl.IsDrawing(list) {
			t.Errorf("IsDrawing(%v) holds", list)
		}
	}
}

func TestP68P69ChangedResultsDoNotChangeTheNextOnes(t *testing.T) {
	list := namedSegments()["three through one point"].list
	pairs, points := impl.MeetingPairs(list), impl.CrossingPoints(list)
	clear(pairs[:cap(pairs)])
	clear(points[:cap(points)])
	want := wantSegments(list)
	if !slices.Equal(impl.MeetingPairs(list), want.meeting) || !slices.Equal(impl.CrossingPoints(list), want.points) {
		t.Error("a changed result changes the next one")
	}
}
