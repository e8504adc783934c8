package tests

import (
	"maps"
	"math"
	"math/rand/v2"
	"slices"
	"strings"
	"testing"

	"loop.example/planargeometry/impl"
)

// half returns a half-plane.
func half(a int, b int, c int) impl.HalfPlane {
	return impl.HalfPlane{A: a, B: b, C: c}
}

// halves returns the half-planes with triples of numbers.
func halves(n ...int) []impl.HalfPlane {
	var list []impl.HalfPlane
	for i := 0; i+2 < len(n); i += 3 {
		list = append(list, half(n[i], n[i+1], n[i+2]))
	}
	return list
}

// textOf returns the text form of points with fractions.
func textOf(list []impl.RatPoint) string {
	var texts []string
	for _, p := range list {
		texts = append(texts, impl.EncodeRat(p.X)+" "+impl.EncodeRat(p.Y))
	}
	return strings.Join(texts, ", ")
}

// compareRatPoints compares two points by X, then by Y.
func compareRatPoints(p impl.RatPoint, q impl.RatPoint) int {
	if n := fromRat(p.X).Cmp(fromRat(q.X)); n != 0 {
		return n
	}
	return fromRat(p.Y).Cmp(fromRat(q.Y))
}

// wantCorners returns the result that Corners should have: the meeting points
// of all boundaries, those of the square included, as far as they are in all half-planes.
func wantCorners(list []impl.HalfPlane) []impl.RatPoint {
	all := slices.Concat(list, halves(1, 0, impl.MaxCoord, -1, 0, impl.MaxCoord, 0, 1, impl.MaxCoord, 0, -1, impl.MaxCoord))
	var corners []impl.RatPoint
	for _, g := range all {
		for _, h := range all {
			den := g.A*h.B - h.A*g.B
			if den <= 0 { // then the exchanged pair has its turn, or they are parallel
				continue
			}
			numX, numY := g.C*h.B-h.C*g.B, g.A*h.C-h.A*g.C
			outside := func(f impl.HalfPlane) bool { return f.A*numX+f.B*numY > f.C*den }
			if slices.ContainsFunc(all, outside) {
				continue
			}
			x, okX := toRat(exact(numX, den))
			y, okY := toRat(exact(numY, den))
			if !okX || !okY {
				panic("a corner is no valid point")
			}
			corners = append(corners, impl.RatPoint{X: x, Y: y})
		}
	}
	slices.SortFunc(corners, compareRatPoints)
	return slices.Compact(corners)
}

// wantInRegion returns the result that InRegion should have for a valid point.
func wantInRegion(list []impl.HalfPlane, p impl.Point) bool {
	return !slices.ContainsFunc(list, func(h impl.HalfPlane) bool { return h.A*p.X+h.B*p.Y > h.C })
}

// regionCase is a list of half-planes with the corners of its region and the highest one.
type regionCase struct {
	list    []impl.HalfPlane
	corners string
	highest string
}

// namedRegions returns regions whose corners are easily found by hand.
func namedRegions() map[string]regionCase {
	const whole = "-1000 -1000, -1000 1000, 1000 -1000, 1000 1000"
	return map[string]regionCase{
		"no half-plane":                      {nil, whole, "-1000 1000"},
		"half of the square":                 {halves(1, 0, 0), "-1000 -1000, -1000 1000, 0 -1000, 0 1000", "-1000 1000"},
		"right half of the square":           {halves(-1, 0, 0), "0 -1000, 0 1000, 1000 -1000, 1000 1000", "0 1000"},
		"half with a diagonal":               {halves(1, 1, 0), "-1000 -1000, -1000 1000, 1000 -1000", "-1000 1000"},
		"oblique boundary":                   {halves(2, 3, 1), "-1000 -1000, -1000 667, 1000 -1000, 1000 -1999/3", "-1000 667"},
		"cut off corner":                     {halves(2, 2, 3997), "-1000 -1000, -1000 1000, 1997/2 1000, 1000 -1000, 1000 1997/2", "-1000 1000"},
		"whole square in one":                {halves(1, 0, 1001), whole, "-1000 1000"},
		"whole square in one at the limits":  {halves(2000, 1999, 4000000), whole, "-1000 1000"},
		"boundary along a side, outside":     {halves(0, 3, 3000), whole, "-1000 1000"},
		"boundary through a corner, outside": {halves(1, 1, 2000), whole, "-1000 1000"},
		"boundary along a side, inside":      {halves(1, 0, -1000), "-1000 -1000, -1000 1000", "-1000 1000"},
		"lower side":                         {halves(0, 5, -5000), "-1000 -1000, 1000 -1000", "-1000 -1000"},
		"boundary through a corner, inside":  {halves(1, 1, -2000), "-1000 -1000", "-1000 -1000"},
		"upper right corner at the limits":   {halves(-2000, -2000, -4000000), "1000 1000", "1000 1000"},
		"one beyond a side":                  {halves(1, 0, -1001), "", ""},
		"one half beyond a side":             {halves(0, 2, -2001), "", ""},
		"one beyond a corner":                {halves(-1, 1, -2001), "", ""},
		"one far away":                       {halves(1, 0, -4000000), "", ""},
		"strip":                              {halves(1, 0, 3, -1, 0, -2), "2 -1000, 2 1000, 3 -1000, 3 1000", "2 1000"},
		"opposite with one line":             {halves(1, 0, 3, -1, 0, -3), "3 -1000, 3 1000", "3 1000"},
		"opposite with one oblique line":     {halves(3, -2, 1, -3, 2, -1), "-1999/3 -1000, 667 1000", "667 1000"},
		"opposite with a multiple":           {halves(2, 2, 0, -5, -5, 0), "-1000 1000, 1000 -1000", "-1000 1000"},
		"opposite and apart":                 {halves(0, 1, 3, 0, -1, -4), "", ""},
		"opposite and slightly apart":        {halves(3, 3, 1, -2, -2, -1), "", ""},
		"opposite and apart outside":         {halves(1, 0, 2000, -1, 0, -3000), "", ""},
		"parallel in one direction":          {halves(1, 0, 5, 1, 0, 3), "-1000 -1000, -1000 1000, 3 -1000, 3 1000", "-1000 1000"},
		"equal ones":                         {halves(0, 1, 3, 0, 1, 3), "-1000 -1000, -1000 3, 1000 -1000, 1000 3", "-1000 3"},
		"equal ones, different numbers":      {halves(0, 1, 3, 0, 2, 6), "-1000 -1000, -1000 3, 1000 -1000, 1000 3", "-1000 3"},
		"equal empty ones":                   {halves(0, 1, -1001, 0, 1, -1001), "", ""},
		"quarter":                            {halves(-1, 0, 0, 0, -1, 0), "0 0, 0 1000, 1000 0, 1000 1000", "0 1000"},
		"wedge":                              {halves(3, 1, 1, -3, 1, 1), "-1001/3 -1000, 0 1, 1001/3 -1000", "0 1"},
		"triangle":                           {halves(1, 1, 4, -1, 0, 0, 0, -1, 0), "0 0, 0 4, 4 0", "0 4"},
		"triangle given twice":               {halves(1, 1, 4, -1, 0, 0, 0, -1, 0, 1, 1, 4, -1, 0, 0, 0, -1, 0), "0 0, 0 4, 4 0", "0 4"},
		"three boundaries through a corner":  {halves(1, 1, 4, 1, 0, 2, 0, 1, 2), "-1000 -1000, -1000 2, 2 -1000, 2 2", "-1000 2"},
		"point of three":                     {halves(-3, 0, -1, 0, -2, -1, 6, 6, 5), "1/3 1/2", "1/3 1/2"},
		"point of four":                      {halves(1, 0, 1, -1, 0, -1, 0, 1, 2, 0, -1, -2), "1 2", "1 2"},
		"point given twice":                  {halves(1, 0, 1, -1, 0, -1, 0, 1, 2, 0, -1, -2, 1, 0, 1, -1, 0, -1, 0, 1, 2, 0, -1, -2), "1 2", "1 2"},
		"point of a side":                    {halves(0, 1, -1000, 2, 0, 1, -2, 0, -1), "1/2 -1000", "1/2 -1000"},
		"point on a boundary":                {halves(1, 0, 1, -1, 0, -1, 0, 1, 2, 0, -1, -2, 1, 1, 3, -1, -1, -3, 5, -1, 3), "1 2", "1 2"},
		"point cut off":                      {halves(1, 0, 1, -1, 0, -1, 0, 1, 2, 0, -1, -2, 1, 1, 2), "", ""},
		"segment":                            {halves(0, 1, 0, 0, -1, 0, 1, 0, 5, -1, 0, 3), "-3 0, 5 0", "-3 0"},
		"upright segment":                    {halves(1, 0, 7, -1, 0, -7, 0, 2, 3, 0, -2, 3), "7 -3/2, 7 3/2", "7 3/2"},
		"oblique segment":                    {halves(1, -1, 0, -1, 1, 0, 1, 1, 3, -1, -1, 1), "-1/2 -1/2, 3/2 3/2", "3/2 3/2"},
		"segment of a side":                  {halves(0, 1, -1000, 1, 0, 5), "-1000 -1000, 5 -1000", "-1000 -1000"},
		"segment with its line again":        {halves(0, 1, 0, 0, -1, 0, 0, 3, 0, 1, 0, 5, -1, 0, 3, 0, -3, 0), "-3 0, 5 0", "-3 0"},
		"segment cut at its end":             {halves(0, 1, 0, 0, -1, 0, 1, 0, 5, -1, 0, 3, 1, 2, -3), "-3 0", "-3 0"},
		"segment cut off":                    {halves(0, 1, 0, 0, -1, 0, 1, 0, 5, -1, 0, 3, 2, 2, -7), "", ""},
		"three without a common point":       {halves(1, 1, -1, -1, 0, 0, 0, -1, 0), "", ""},
		"eight":                              {halves(1, 0, 2, -1, 0, 2, 0, 1, 2, 0, -1, 2, 1, 1, 3, 1, -1, 3, -1, 1, 3, -1, -1, 3), "-2 -1, -2 1, -1 -2, -1 2, 1 -2, 1 2, 2 -1, 2 1", "-1 2"},
		"eight through one point":            {halves(1, 0, 0, 1, 1, 0, 0, 1, 0, -1, 1, 0, 2, 1, 0, 1, 2, 0, -1, 2, 0, 1, 3, 0), "-1000 -1000, 0 -1000, 0 0", "0 0"},
		"large numbers":                      {halves(-2000, 1999, 1, 1999, -2000, 1), "-1 -1, 1998999/2000 1000, 1000 1998999/2000, 1000 1000", "1998999/2000 1000"},
		"flat wedge and a touching one":      {halves(0, 1, 0, 1, -2000, 0, -1, 1, 1000), "-1000 -1/2, -1000 0, 0 0", "-1000 0"},
	}
}

// randomHalf returns a half-plane with A and B in -slope..slope and C in -offset..offset.
func randomHalf(r *rand.Rand, slope int, offset int) impl.HalfPlane {
	for {
		v := randomPoint(r, slope)
		if v != xy(0, 0) {
			return half(v.X, v.Y, r.IntN(2*offset+1)-offset)
		}
	}
}

// halfThrough returns a half-plane whose boundary is through a point, or at most a little beside it.
func halfThrough(r *rand.Rand, p impl.Point, slope int) impl.HalfPlane {
	h := randomHalf(r, slope, 0)
	c := dotOf(xy(h.A, h.B), p) + r.IntN(9)/8 - r.IntN(9)/8
	return half(h.A, h.B, min(max(c, -impl.MaxOffset), impl.MaxOffset))
}

// severalHalves returns up to MaxHalves half-planes that a function makes,
// some of them twice, turned round, or with the doubled numbers.
func severalHalves(r *rand.Rand, next func() impl.HalfPlane) []impl.HalfPlane {
	var list []impl.HalfPlane
	for range r.IntN(impl.MaxHalves + 1) {
		h := next()
		if n := len(list); n > 0 {
			before := list[r.IntN(n)]
			switch r.IntN(8) {
			case 0:
				h = before
			case 1:
				h = half(-before.A, -before.B, -before.C)
			case 2:
				if twice := half(2*before.A, 2*before.B, 2*before.C); impl.ValidHalves(halves(twice.A, twice.B, twice.C)) {
					h = twice
				}
			}
		}
		list = append(list, h)
	}
	return list
}

// someRegions returns the half-planes of named regions and random ones: small
// ones, whose boundaries are often parallel or meet in one point, ones through
// few points, the corners of the square among them, and large ones.
func someRegions() [][]impl.HalfPlane {
	var lists [][]impl.HalfPlane
	named := namedRegions()
	for _, name := range slices.Sorted(maps.Keys(named)) { // in the same order in each run
		lists = append(lists, named[name].list)
	}
	r := fixedRandom()
	corners := []impl.Point{xy(1000, 1000), xy(-1000, 1000), xy(1000, -1000), xy(-1000, -1000), xy(0, -1000)}
	for range 300 {
		p, q := randomPoint(r, impl.MaxCoord), corners[r.IntN(len(corners))]
		lists = append(lists,
			severalHalves(r, func() impl.HalfPlane { return randomHalf(r, 2, 3) }),
			severalHalves(r, func() impl.HalfPlane { return randomHalf(r, 2, 3000) }),
			severalHalves(r, func() impl.HalfPlane { return halfThrough(r, p, 4) }),
			severalHalves(r, func() impl.HalfPlane { return halfThrough(r, p, impl.MaxSlope) }),
			severalHalves(r, func() impl.HalfPlane { return halfThrough(r, q, 2) }),
			severalHalves(r, func() impl.HalfPlane { return randomHalf(r, impl.MaxSlope, impl.MaxSlope) }),
			severalHalves(r, func() impl.HalfPlane { return randomHalf(r, impl.MaxSlope, impl.MaxOffset) }),
		)
	}
	return lists
}

// smallHalves returns the half-planes with A and B in -1..1 and some numbers C.
func smallHalves(offsets ...int) []impl.HalfPlane {
	var list []impl.HalfPlane
	for _, v := range grid(3, 3, xy(-1, -1)) {
		for _, c := range offsets {
			if v != xy(0, 0) {
				list = append(list, half(v.X, v.Y, c))
			}
		}
	}
	return list
}

// badHalves returns lists that are not valid: too many half-planes, and half-planes that are not valid.
func badHalves() [][]impl.HalfPlane {
	good := half(1, 0, -1001) // its region is empty
	lists := [][]impl.HalfPlane{make([]impl.HalfPlane, 1), slices.Repeat(halves(1, 0, 5), impl.MaxHalves+1), slices.Repeat(halves(1, 0, -1001), impl.MaxHalves+1)}
	for _, bad := range halves(
		0, 0, 0, 0, 0, 1, 0, 0, -1, 0, 0, impl.MaxOffset,
		2001, 0, 0, -2001, 0, 0, 0, 2001, 0, 0, -2001, 0, 1, 2001, 1, 2001, 1, 1, 1, 0, 4000001, 1, 0, -4000001,
		math.MinInt, 0, 0, 0, math.MinInt, 0, 1, 1, math.MinInt, math.MaxInt, 0, 0, 0, math.MaxInt, 0, 1, 1, math.MaxInt,
		math.MinInt, math.MinInt, math.MinInt, math.MaxInt, math.MaxInt, math.MaxInt,
	) {
		lists = append(lists, []impl.HalfPlane{bad}, []impl.HalfPlane{bad, good, good}, []impl.HalfPlane{good, good, bad})
	}
	return lists
}

func TestValidHalvesHasLimits(t *testing.T) {
	for _, list := range append(someRegions(), nil, halves(2000, 0, 4000000), halves(-2000, 0, -4000000), halves(0, 2000, 0), halves(0, -2000, 0), slices.Repeat(halves(6, 4, 2), impl.MaxHalves)) {
		if !impl.ValidHalves(list) {
			t.Errorf("ValidHalves(%v) fails", list)
		}
	}
	for _, list := range badHalves() {
		if impl.ValidHalves(list) {
			t.Errorf("ValidHalves(%v) holds", list)
		}
	}
}

// checkCorners fails the test unless Corners is right for half-planes, and leaves them as they are.
func checkCorners(t *testing.T, list []impl.HalfPlane) {
	t.Helper()
	before := slices.Clone(list)
	if got, want := impl.Corners(list), wantCorners(list); !slices.Equal(got, want) {
		t.Fatalf("Corners(%v) = %s, want %s", list, textOf(got), textOf(want))
	}
	if !slices.Equal(list, before) {
		t.Fatalf("Corners changes %v to %v", before, list)
	}
}

func TestP44P47CornersOfNamedRegions(t *testing.T) {
	for name, c := range namedRegions() {
		if got := textOf(impl.Corners(c.list)); got != c.corners {
			t.Errorf("%s: Corners(%v) = %s, want %s", name, c.list, got, c.corners)
		}
		p, ok := impl.Highest(c.list)
		if !ok && p != (impl.RatPoint{}) {
			t.Errorf("%s: Highest(%v) fails with %v", name, c.list, p)
		}
		highest := ""
		if ok {
			highest = textOf([]impl.RatPoint{p})
		}
		if highest != c.highest {
			t.Errorf("%s: Highest(%v) = %s, want %s", name, c.list, highest, c.highest)
		}
	}
}

func TestP44CornersAreMeetingPointsInTheRegion(t *testing.T) {
	count := map[int]int{}
	for _, list := range someRegions() {
		checkCorners(t, list)
		count[len(impl.Corners(list))]++
	}
	// Empty regions, points, segments, and polygons with many corners.
	for _, n := range []int{0, 1, 2, 3, 4, 5, 6} {
		if count[n] < 10 {
			t.Errorf("only %d regions with %d corners", count[n], n)
		}
	}
}

func TestP44CornersOfAllSmallHalfPlanes(t *testing.T) {
	list := smallHalves(-1, 0, 1)
	for _, f := range list {
		for _, g := range list {
			for _, h := range list {
				checkCorners(t, []impl.HalfPlane{f, g, h})
			}
		}
	}
	list = smallHalves(-2001, -2000, -1001, -1000, -999, 0, 1, 999, 1000, 1001, 1999, 2000, 2001)
	for _, g := range list {
		checkCorners(t, []impl.HalfPlane{g})
		for _, h := range list {
			checkCorners(t, []impl.HalfPlane{g, h})
		}
	}
}

func TestP44CornersDoNotDependOnTheOrder(t *testing.T) {
	r := fixedRandom()
	for _, list := range someRegions() {
		want := impl.Corners(list)
		for range 5 {
			r.Shuffle(len(list), func(i, k int) { list[i], list[k] = list[k], list[i] })
			if got := impl.Corners(list); !slices.Equal(got, want) {
				t.Fatalf("Corners(%v) = %s, in another order %s", list, textOf(got), textOf(want))
			}
		}
	}
}

// probes returns points to be tested with half-planes: some points, and those with whole coordinates near corners.
func probes(list []impl.HalfPlane) []impl.Point {
	points := somePoints()
	for _, c := range wantCorners(list) {
		near := xy(impl.FloorRat(c.X), impl.FloorRat(c.Y))
		for _, p := range grid(4, 4, shift(near, xy(-1, -1))) {
			if impl.ValidPoint(p) {
				points = append(points, p)
			}
		}
	}
	return points
}

func TestP44CornersAndPointsOfTheRegion(t *testing.T) {
	whole, inside := 0, 0
	for _, list := range someRegions() {
		for _, c := range impl.Corners(list) {
			if c.X.Den > 1 || c.Y.Den > 1 {
				continue
			}
			whole++
			if p := xy(c.X.Num, c.Y.Num); !impl.InRegion(list, p) {
				t.Fatalf("InRegion(%v, %v) fails for a corner", list, p)
			}
		}
		top, ok := impl.Highest(list)
		for _, p := range probes(list) {
			if !impl.InRegion(list, p) {
				continue
			}
			inside++
			if !ok || big1(p.Y).Cmp(fromRat(top.Y)) > 0 {
				t.Fatalf("InRegion(%v, %v), but Highest = %v, %v", list, p, top, ok)
			}
		}
	}
	if whole < 1000 || inside < 10000 {
		t.Errorf("only %d whole corners, %d points", whole, inside)
	}
}

func TestP45MoreHalfPlanesHaveASmallerRegion(t *testing.T) {
	r := fixedRandom()
	for _, list := range someRegions() {
		var part []impl.HalfPlane
		for _, h := range list {
			if r.IntN(3) > 0 {
				part = append(part, h)
			}
		}
		if all := impl.Corners(list); len(impl.Corners(part)) == 0 && len(all) > 0 {
			t.Fatalf("Corners(%v) = %s, but there are none for %v", list, textOf(all), part)
		}
		for _, p := range probes(list) {
			if impl.InRegion(list, p) && !impl.InRegion(part, p) {
				t.Fatalf("InRegion(%v, %v), but not for %v", list, p, part)
			}
		}
	}
}

func TestP46RegionsAreIntersections(t *testing.T) {
	for _, list := range someRegions() {
		before := slices.Clone(list)
		for _, p := range probes(list) {
			got, alone := impl.InRegion(list, p), true
			for i := range list {
				alone = alone && impl.InRegion(list[i:i+1], p)
			}
			if got != alone || got != wantInRegion(list, p) {
				t.Fatalf("InRegion(%v, %v) = %v, each alone %v", list, p, got, alone)
			}
		}
		if !slices.Equal(list, before) {
			t.Fatalf("InRegion changes %v to %v", before, list)
		}
	}
}

func TestP46BoundariesBelongToTheRegion(t *testing.T) {
	triangle := halves(1, 1, 4, -1, 0, 0, 0, -1, 0)
	for _, p := range []impl.Point{xy(0, 0), xy(4, 0), xy(0, 4), xy(2, 2), xy(2, 0), xy(0, 3), xy(1, 1), xy(1, 2)} {
		if !impl.InRegion(triangle, p) {
			t.Errorf("InRegion(%v) fails", p)
		}
	}
	for _, p := range []impl.Point{xy(-1, 0), xy(0, -1), xy(5, 0), xy(0, 5), xy(2, 3), xy(3, 2), xy(1000, 1000), xy(-1000, -1000)} {
		if impl.InRegion(triangle, p) {
			t.Errorf("InRegion(%v) holds", p)
		}
	}
	for _, p := range somePoints() {
		if !impl.InRegion(nil, p) || !impl.InRegion(halves(2000, 2000, 4000000), p) || impl.InRegion(halves(1, 0, -1001), p) {
			t.Errorf("InRegion of %v for no half-plane, the whole square, or none of it", p)
		}
	}
}

func TestP47TheHighestCornerIsACorner(t *testing.T) {
	for _, list := range someRegions() {
		before := slices.Clone(list)
		p, ok := impl.Highest(list)
		corners := impl.Corners(list)
		if ok != (len(corners) > 0) || ok != slices.Contains(corners, p) || !ok && p != (impl.RatPoint{}) {
			t.Fatalf("Highest(%v) = %v, %v, but Corners = %s", list, p, ok, textOf(corners))
		}
		for _, c := range corners {
			if n := fromRat(c.Y).Cmp(fromRat(p.Y)); n > 0 || n == 0 && fromRat(c.X).Cmp(fromRat(p.X)) < 0 {
				t.Fatalf("Highest(%v) = %v, but there is %v", list, p, c)
			}
		}
		if !slices.Equal(list, before) {
			t.Fatalf("Highest changes %v to %v", before, list)
		}
	}
}

func TestP44ToP47InvalidHalfPlanes(t *testing.T) {
	for _, list := range badHalves() {
		if c := impl.Corners(list); c != nil {
			t.Errorf("Corners(%v) = %v", list, c)
		}
		if p, ok := impl.Highest(list); ok || p != (impl.RatPoint{}) {
			t.Errorf("Highest(%v) = %v, %v", list, p, ok)
		}
		for _, p := range somePoints() {
			if impl.InRegion(list, p) {
				t.Errorf("InRegion(%v, %v) holds", list, p)
			}
		}
	}
	for _, bad := range badPoints() {
		if impl.InRegion(nil, bad) || impl.InRegion(halves(1, 0, 4000000, 0, -1, 4000000), bad) {
			t.Errorf("InRegion of %v holds", bad)
		}
	}
}

func TestP44ChangedCornersDoNotChangeTheNextOnes(t *testing.T) {
	list := halves(1, 1, 4, -1, 0, 0, 0, -1, 0)
	corners := impl.Corners(list)
	corners = corners[:cap(corners)]
	for i := range corners {
		corners[i] = impl.RatPoint{X: ratio(7, 1), Y: ratio(7, 1)}
	}
	if got := textOf(impl.Corners(list)); got != "0 0, 0 4, 4 0" {
		t.Errorf("Corners = %s", got)
	}
}
