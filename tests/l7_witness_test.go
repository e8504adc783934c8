package tests

import (
	"math"
	"slices"
	"testing"

	"loop.example/planargeometry/impl"
)

// hasPoint reports whether a point is in a triangle: then it divides the area
// of the triangle. If there is no area, it must be on a side.
func hasPoint(a impl.Point, b impl.Point, c impl.Point, q impl.Point) bool {
	size := func(n int) int { return max(n, -n) }
	if all := size(crossOf(a, b, c)); all != 0 {
		return size(crossOf(a, b, q))+size(crossOf(b, c, q))+size(crossOf(c, a, q)) == all
	}
	return between(seg(a, b), q) || between(seg(b, c), q) || between(seg(c, a), q)
}

func TestP35TrianglesDoNotDependOnTheOrderOfTheirPoints(t *testing.T) {
	large := []impl.Point{xy(-1000, -1000), xy(1000, 1000), xy(1000, -1000), xy(0, 0), xy(999, 1000), xy(-1000, 1000), xy(0, 1), xy(-999, -999)}
	for _, list := range [][]impl.Point{grid(3, 3, xy(-1, -1)), large} {
		for _, q := range list {
			triples(list, func(a, b, c impl.Point) {
				want := hasPoint(a, b, c, q)
				for _, p := range [][3]impl.Point{{a, b, c}, {b, c, a}, {c, a, b}, {c, b, a}, {b, a, c}, {a, c, b}} {
					if got := impl.InTriangle(p[0], p[1], p[2], q); got != want {
						t.Fatalf("InTriangle(%v, %v) = %v", p, q, got)
					}
				}
			})
		}
		triples(list, func(a, b, c impl.Point) {
			if !impl.InTriangle(a, b, c, a) || !impl.InTriangle(a, b, c, b) || !impl.InTriangle(a, b, c, c) {
				t.Fatalf("InTriangle fails for a point of %v, %v, %v", a, b, c)
			}
		})
	}
}

func TestP35TrianglesWithoutArea(t *testing.T) {
	a, b, c := xy(0, 0), xy(2, 2), xy(6, 6)
	for _, q := range []impl.Point{xy(0, 0), xy(1, 1), xy(2, 2), xy(5, 5), xy(6, 6)} {
		if !impl.InTriangle(a, b, c, q) {
			t.Errorf("InTriangle of %v fails", q)
		}
	}
	for _, q := range []impl.Point{xy(-1, -1), xy(7, 7), xy(1, 2), xy(3, 2), xy(0, 6), xy(1000, 1000)} {
		if impl.InTriangle(a, b, c, q) {
			t.Errorf("InTriangle of %v holds", q)
		}
	}
	if !impl.InTriangle(b, b, b, b) || impl.InTriangle(b, b, b, a) || impl.InTriangle(a, a, b, c) || !impl.InTriangle(a, a, b, xy(1, 1)) {
		t.Error("InTriangle of equal points")
	}
}

func TestP35InvalidPoints(t *testing.T) {
	a, b, c := xy(-1000, -1000), xy(1000, -1000), xy(0, 1000)
	for _, bad := range badPoints() {
		for _, p := range [][4]impl.Point{{bad, b, c, b}, {a, bad, c, c}, {a, b, bad, a}, {a, b, c, bad}, {bad, bad, bad, bad}, {bad, a, a, bad}} {
			if impl.InTriangle(p[0], p[1], p[2], p[3]) {
				t.Errorf("InTriangle(%v) holds", p)
			}
		}
	}
}

// wantWitness returns the lexicographically smallest indices of hull vertices whose triangle has a point.
func wantWitness(h []impl.Point, q impl.Point) []int {
	for i := range h {
		for k := i; k < len(h); k++ {
			for n := k; n < len(h); n++ {
				if hasPoint(h[i], h[k], h[n], q) {
					return []int{i, k, n}
				}
			}
		}
	}
	return nil
}

// proofOf returns a witness for each point, as far as there is one.
func proofOf(h []impl.Point, list []impl.Point) [][]int {
	var proof [][]int
	for _, q := range list {
		proof = append(proof, wantWitness(h, q))
	}
	return proof
}

func TestP36WitnessesProveTheHull(t *testing.T) {
	for _, list := range someLists() {
		before := slices.Clone(list)
		h, proof := impl.Hull(list), impl.HullWitness(list)
		if want := proofOf(h, list); !slices.EqualFunc(proof, want, slices.Equal) {
			t.Fatalf("HullWitness(%v) = %v, want %v", list, proof, want)
		}
		if got := impl.CheckHull(list, h, proof); got != (len(list) > 0) {
			t.Fatalf("CheckHull(%v, %v, %v) = %v", list, h, proof, got)
		}
		sameList(t, "the argument of HullWitness", list, before)
	}
}

func TestP36OrdinaryWitnesses(t *testing.T) {
	square := []impl.Point{xy(0, 0), xy(4, 0), xy(4, 4), xy(0, 4)}
	for _, c := range []struct {
		list []impl.Point
		want [][]int
	}{
		{nil, nil}, {[]impl.Point{xy(3, 4)}, [][]int{{0, 0, 0}}}, {[]impl.Point{xy(3, 4), xy(3, 4)}, [][]int{{0, 0, 0}, {0, 0, 0}}},
		{[]impl.Point{xy(6, 6), xy(0, 0), xy(2, 2)}, [][]int{{0, 0, 1}, {0, 0, 0}, {0, 0, 1}}},
		{square, [][]int{{0, 0, 0}, {0, 0, 1}, {0, 0, 2}, {0, 0, 3}}},
		{append(square, xy(3, 3), xy(1, 3), xy(3, 1), xy(4, 2)), [][]int{{0, 0, 0}, {0, 0, 1}, {0, 0, 2}, {0, 0, 3}, {0, 0, 2}, {0, 1, 3}, {0, 1, 2}, {0, 1, 2}}},
	} {
		if got := impl.HullWitness(c.list); !slices.EqualFunc(got, c.want, slices.Equal) {
			t.Errorf("HullWitness(%v) = %v, want %v", c.list, got, c.want)
		}
	}
}

func TestP36WitnessesShareNoMemory(t *testing.T) {
	list := grid(5, 4, xy(0, 0))
	proof := impl.HullWitness(list)
	want := proofOf(impl.Hull(list), list)
	for i, indices := range proof {
		all := indices[:cap(indices)]
		for k := range all {
			all[k] = -1
		}
		if i+1 < len(proof) && !slices.Equal(proof[i+1], want[i+1]) {
			t.Fatalf("the witnesses %d and %d share memory", i, i+1)
		}
	}
	if !slices.EqualFunc(impl.HullWitness(list), want, slices.Equal) {
		t.Error("a changed result changes the next one")
	}
}

func TestP36P37InvalidLists(t *testing.T) {
	h := []impl.Point{xy(0, 0), xy(5, 0), xy(0, 5)}
	for _, list := range badLists() {
		if proof := impl.HullWitness(list); proof != nil {
			t.Errorf("HullWitness(%v) = %v", list, proof)
		}
		if impl.CheckHull(list, h, proofOf(h, list)) || impl.CheckHull(list, list, proofOf(list, list)) || impl.CheckHull(h, list, proofOf(h, h)) {
			t.Errorf("CheckHull accepts %v", list)
		}
	}
	// All points of this list are on two points of it, but the list is too long.
	long := slices.Repeat([]impl.Point{xy(0, 0), xy(1, 0)}, impl.MaxPoints)[:impl.MaxPoints+1]
	if impl.CheckHull(long, long[:2], slices.Repeat([][]int{{0, 1, 1}}, len(long))) || !impl.CheckHull(long[:20], long[:2], slices.Repeat([][]int{{0, 1, 1}}, 20)) {
		t.Error("CheckHull of MaxPoints points or one more")
	}
}

// checkAcceptance fails the test unless CheckHull accepts h, with the best witnesses, exactly if it is the hull.
func checkAcceptance(t *testing.T, list []impl.Point, h []impl.Point) bool {
	t.Helper()
	want := len(list) > 0 && slices.Equal(h, wantHull(list))
	if got := impl.CheckHull(list, h, proofOf(h, list)); got != want {
		t.Fatalf("CheckHull(%v, %v) = %v", list, h, got)
	}
	return want
}

func TestP37OnlyTheHullIsAccepted(t *testing.T) {
	count := 0
	points := []impl.Point{xy(0, 0), xy(2, 0), xy(1, 1), xy(0, 2), xy(2, 2), xy(1, 0)}
	for n := range 4 {
		sequences(points, n, func(list []impl.Point) {
			for k := range 5 {
				sequences(points[:5], k, func(h []impl.Point) {
					if checkAcceptance(t, list, h) {
						count++
					}
				})
			}
		})
	}
	if count < 100 {
		t.Errorf("only %d hulls", count)
	}
}

func TestP37ChangedHullsAreNotAccepted(t *testing.T) {
	for _, list := range someLists() {
		h := wantHull(list)
		for i := range h {
			checkAcceptance(t, list, rotated(h, i))
			checkAcceptance(t, list, reversed(rotated(h, i)))
			checkAcceptance(t, list, slices.Delete(slices.Clone(h), i, i+1))
			checkAcceptance(t, list, slices.Insert(slices.Clone(h), i, h[i]))
			checkAcceptance(t, list, slices.Insert(slices.Clone(h), i, xy(0, 0)))
		}
		for _, p := range list {
			checkAcceptance(t, list, append(slices.Clone(h), p))
		}
		checkAcceptance(t, list, []impl.Point{xy(-1000, -1000), xy(1000, -1000), xy(1000, 1000), xy(-1000, 1000)})
		checkAcceptance(t, list, nil)
	}
}

func TestP37WitnessesOfAnyOrder(t *testing.T) {
	list := []impl.Point{xy(0, 0), xy(4, 0), xy(0, 4), xy(1, 1), xy(2, 0)}
	h := []impl.Point{xy(0, 0), xy(4, 0), xy(0, 4)}
	for _, proof := range [][][]int{
		{{0, 0, 0}, {1, 1, 1}, {2, 2, 2}, {0, 1, 2}, {0, 1, 1}},
		{{2, 1, 0}, {2, 1, 0}, {1, 2, 0}, {2, 0, 1}, {1, 0, 1}},
	} {
		if !impl.CheckHull(list, h, proof) {
			t.Errorf("CheckHull does not accept %v", proof)
		}
	}
}

func TestP37WrongWitnesses(t *testing.T) {
	list := []impl.Point{xy(0, 0), xy(4, 0), xy(0, 4), xy(1, 1)}
	h := list[:3]
	good := [][]int{{0, 0, 0}, {0, 0, 1}, {0, 0, 2}, {0, 1, 2}}
	for i := range good {
		for _, wrong := range [][]int{
			nil, {i}, {0, 1}, {0, 1, 2, 2}, {0, 1, 2, 3}, {-1, 1, 2}, {0, 1, 3}, {3, 3, 3}, {0, 3, 2},
			{math.MinInt, 1, 2}, {0, math.MaxInt, 2}, {0, 1, math.MinInt}, {(i + 1) % 3, (i + 1) % 3, (i + 1) % 3},
		} {
			proof := slices.Clone(good)
			proof[i] = wrong
			if impl.CheckHull(list, h, proof) {
				t.Errorf("CheckHull accepts %v", proof)
			}
		}
	}
	for _, proof := range [][][]int{nil, {}, good[:3], append(slices.Clone(good), good[0]), append([][]int{{0, 0, 0}}, good...)} {
		if impl.CheckHull(list, h, proof) {
			t.Errorf("CheckHull accepts %v", proof)
		}
	}
	if !impl.CheckHull(list, h, good) || impl.CheckHull(nil, nil, nil) || impl.CheckHull(nil, h, nil) || impl.CheckHull(list, nil, good) {
		t.Error("CheckHull of the hull, or of nothing")
	}
}

func TestP37CheckHullKeepsItsArguments(t *testing.T) {
	list := []impl.Point{xy(4, 0), xy(0, 0), xy(0, 4), xy(1, 1)}
	h := []impl.Point{xy(0, 0), xy(4, 0), xy(0, 4)}
	proof := [][]int{{1, 1, 1}, {0, 0, 0}, {2, 2, 2}, {2, 1, 0}}
	if !impl.CheckHull(list, h, proof) {
		t.Error("CheckHull fails")
	}
	sameList(t, "the list", list, []impl.Point{xy(4, 0), xy(0, 0), xy(0, 4), xy(1, 1)})
	sameList(t, "the hull", h, []impl.Point{xy(0, 0), xy(4, 0), xy(0, 4)})
	if !slices.EqualFunc(proof, [][]int{{1, 1, 1}, {0, 0, 0}, {2, 2, 2}, {2, 1, 0}}, slices.Equal) {
		t.Errorf("the proof is now %v", proof)
	}
}
