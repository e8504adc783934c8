package tests

import (
	"math"
	"slices"
	"testing"

	"loop.example/planargeometry/impl"
)

// wantColors returns the first colors of n vertices in lexicographic order such
// that no triangle has one twice, and begin with those of the first vertices;
// nil if there are none.
func wantColors(n int, list []impl.Triangle, first ...int) []int {
	for _, t := range list {
		for _, side := range [][2]int{{t.A, t.B}, {t.B, t.C}, {t.C, t.A}} {
			if max(side[0], side[1]) < len(first) && first[side[0]] == first[side[1]] {
				return nil
			}
		}
	}
	if len(first) == n {
		return slices.Clone(first)
	}
	for color := range 3 {
		if all := wantColors(n, list, append(slices.Clone(first), color)...); all != nil {
			return all
		}
	}
	return nil
}

func TestP77ThreeColorsAreEnough(t *testing.T) {
	r := fixedRandom()
	for _, p := range cutPolygons() {
		list := turnedTriangles(r, wantTriangles(p))
		before, points := slices.Clone(list), slices.Clone(p)
		colors := impl.ColorVertices(p, list)
		if want := wantColors(len(p), list); !slices.Equal(colors, want) {
			t.Fatalf("ColorVertices(%v, %v) = %v, want %v", p, list, colors, want)
		}
		if !slices.Equal(list, before) || !slices.Equal(p, points) {
			t.Fatalf("ColorVertices changes %v, %v", points, before)
		}
	}
}

func TestP77OrdinaryColors(t *testing.T) {
	pentagon := []impl.Point{xy(0, 0), xy(4, 0), xy(5, 3), xy(2, 5), xy(-1, 3)}
	for _, c := range []struct {
		p    []impl.Point
		list []impl.Triangle
		want []int
	}{
		{pentagon[:3], tris(0, 1, 2), []int{0, 1, 2}}, {pentagon[:3], tris(2, 0, 1), []int{0, 1, 2}}, {pentagon[:3], nil, nil}, {pentagon[:3], tris(0, 2, 1), nil},
		{pentagon, tris(0, 1, 2, 0, 2, 3, 0, 3, 4), []int{0, 1, 2, 1, 2}}, {pentagon, tris(1, 2, 3, 1, 3, 4, 1, 4, 0), []int{0, 1, 2, 0, 2}},
		{pentagon, tris(1, 2, 3, 1, 3, 4, 0, 1, 4), []int{0, 1, 2, 0, 2}}, {pentagon, tris(0, 1, 2, 0, 2, 3), nil}, {pentagon, tris(4, 0, 1, 4, 1, 2, 4, 2, 3), []int{0, 1, 0, 1, 2}},
	} {
		if got := impl.ColorVertices(c.p, c.list); !slices.Equal(got, c.want) {
			t.Errorf("ColorVertices(%v, %v) = %v, want %v", c.p, c.list, got, c.want)
		}
	}
}

// wantGuards returns the vertices with the rarest color of Triangulate.
func wantGuards(p []impl.Point) []int {
	colors := wantColors(len(p), wantTriangles(p))
	var best []int
	for color := range 3 {
		var guards []int
		for v, c := range colors {
			if c == color {
				guards = append(guards, v)
			}
		}
		if color == 0 || len(guards) < len(best) {
			best = guards
		}
	}
	return best
}

func TestP78AThirdOfTheVerticesIsEnough(t *testing.T) {
	for _, p := range cutPolygons() {
		before := slices.Clone(p)
		guards := impl.GuardsOf(p)
		if want := wantGuards(p); !slices.Equal(guards, want) || len(guards) > len(p)/3 {
			t.Fatalf("GuardsOf(%v) = %v, want %v", p, guards, want)
		}
		if !impl.CheckGuards(p, impl.Triangulate(p), guards) {
			t.Fatalf("CheckGuards(%v, %v) fails", p, guards)
		}
		sameList(t, "the argument of GuardsOf", p, before)
	}
}

func TestP78OrdinaryGuards(t *testing.T) {
	for _, c := range []struct {
		p    []impl.Point
		want []int
	}{
		{[]impl.Point{xy(0, 0), xy(4, 0), xy(0, 4)}, []int{0}}, {[]impl.Point{xy(0, 0), xy(0, 4), xy(4, 0)}, []int{0}},
		{[]impl.Point{xy(0, 0), xy(4, 0), xy(4, 4), xy(0, 4)}, []int{1}},
		{[]impl.Point{xy(0, 0), xy(4, 0), xy(4, 4), xy(2, 1), xy(0, 4)}, []int{3}},
		{[]impl.Point{xy(0, 4), xy(2, 1), xy(4, 4), xy(4, 0), xy(0, 0)}, []int{1}},
	} {
		if got := impl.GuardsOf(c.p); !slices.Equal(got, c.want) {
			t.Errorf("GuardsOf(%v) = %v, want %v", c.p, got, c.want)
		}
	}
}

// guarded reports whether each triangle has an index of guards.
func guarded(list []impl.Triangle, guards []int) bool {
	for _, t := range list {
		if !slices.Contains(guards, t.A) && !slices.Contains(guards, t.B) && !slices.Contains(guards, t.C) {
			return false
		}
	}
	return true
}

func TestP79MoreGuardsSeeMore(t *testing.T) {
	r := fixedRandom()
	held, failed := 0, 0
	for _, p := range cutPolygons() {
		if len(p) > 8 {
			continue
		}
		list := turnedTriangles(r, wantTriangles(p))
		for _, guards := range indexSets(len(p)) {
			before := slices.Clone(guards)
			got := impl.CheckGuards(p, list, guards)
			if got != guarded(list, guards) || impl.CheckGuards(p, list, reversedInts(guards)) != got {
				t.Fatalf("CheckGuards(%v, %v, %v) = %v", p, list, guards, got)
			}
			if more := append(slices.Clone(guards), r.IntN(len(p))); got && !impl.CheckGuards(p, list, more) {
				t.Fatalf("CheckGuards(%v, %v, %v) fails", p, list, more)
			}
			if !slices.Equal(guards, before) {
				t.Fatalf("CheckGuards changes %v to %v", before, guards)
			}
			if got {
				held++
			} else {
				failed++
			}
		}
	}
	if min(held, failed) < 1000 {
		t.Errorf("only %d are accepted and %d are not", held, failed)
	}
}

// reversedInts returns numbers in the opposite order.
func reversedInts(list []int) []int {
	out := slices.Clone(list)
	slices.Reverse(out)
	return out
}

func TestP79InvalidGuards(t *testing.T) {
	p := []impl.Point{xy(0, 0), xy(4, 0), xy(4, 4), xy(2, 1), xy(0, 4)}
	list := wantTriangles(p)
	for _, guards := range [][]int{nil, {}, {-1}, {5}, {3, 5}, {5, 3}, {-1, 3}, {3, -1}, {3, math.MinInt}, {math.MaxInt, 3}, {0, 1, 2, 3, 4, 5}, {4}, {2, 2}} {
		if impl.CheckGuards(p, list, guards) {
			t.Errorf("CheckGuards(%v) holds", guards)
		}
	}
	for _, guards := range [][]int{{3}, {3, 3, 3}, {4, 3}, {0, 2}, {0, 1, 2, 3, 4}, slices.Repeat([]int{3, 0}, 1000)} {
		if !impl.CheckGuards(p, list, guards) {
			t.Errorf("CheckGuards(%v) fails", guards)
		}
	}
}

func TestP77P78P79InvalidPolygons(t *testing.T) {
	lists := flatPolygons()
	for _, p := range notSimple() {
		lists = append(lists, p)
	}
	for _, p := range lists {
		if guards := impl.GuardsOf(p); guards != nil {
			t.Errorf("GuardsOf(%v) = %v", p, guards)
		}
		for _, list := range [][]impl.Triangle{nil, tris(0, 1, 2), tris(0, 2, 1), tris(0, 1, 3, 1, 2, 3)} {
			if colors := impl.ColorVertices(p, list); colors != nil || impl.CheckGuards(p, list, []int{0, 1, 2}) {
				t.Errorf("ColorVertices(%v, %v) = %v", p, list, colors)
			}
		}
	}
}

func TestP77P79InvalidTriangulations(t *testing.T) {
	p := []impl.Point{xy(0, 0), xy(4, 0), xy(4, 4), xy(2, 1), xy(0, 4)}
	changedTriangles(wantTriangles(p), len(p), func(list []impl.Triangle) {
		want := divide(p, list)
		if got := impl.ColorVertices(p, list); (got != nil) != want {
			t.Fatalf("ColorVertices(%v, %v) = %v", p, list, got)
		}
		if got := impl.CheckGuards(p, list, []int{0, 1, 2, 3, 4}); got != want {
			t.Fatalf("CheckGuards(%v, %v) = %v", p, list, got)
		}
	})
}
