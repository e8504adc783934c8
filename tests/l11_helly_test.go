package tests

import (
	"math"
	"slices"
	"testing"

	"loop.example/planargeometry/impl"
)

// chosenHalves returns the half-planes with some indices.
func chosenHalves(list []impl.HalfPlane, indices []int) []impl.HalfPlane {
	var out []impl.HalfPlane
	for _, i := range indices {
		out = append(out, list[i])
	}
	return out
}

// indexSets returns all ascending lists of indices that are less than a limit.
func indexSets(limit int) [][]int {
	var sets [][]int
	for bits := range 1 << limit {
		var set []int
		for i := range limit {
			if bits>>i&1 == 1 {
				set = append(set, i)
			}
		}
		sets = append(sets, set)
	}
	return sets
}

// wantWitnessOfEmpty returns the result that EmptyWitness should have, from all subsets of the half-planes.
func wantWitnessOfEmpty(list []impl.HalfPlane) []int {
	var best []int
	for _, set := range indexSets(len(list)) {
		if best != nil && (len(set) > len(best) || len(set) == len(best) && slices.Compare(set, best) > 0) {
			continue
		}
		if len(wantCorners(chosenHalves(list, set))) == 0 {
			best = set
		}
	}
	return best
}

func TestP48ThreeHalfPlanesProveThatARegionIsEmpty(t *testing.T) {
	count := [4]int{}
	for _, list := range someRegions() {
		before := slices.Clone(list)
		got, ok := impl.EmptyWitness(list)
		want := wantWitnessOfEmpty(list)
		if !slices.Equal(got, want) || ok != (want != nil) {
			t.Fatalf("EmptyWitness(%v) = %v, %v, want %v", list, got, ok, want)
		}
		if ok != (len(impl.Corners(list)) == 0) || ok != impl.CheckEmpty(list, got) {
			t.Fatalf("EmptyWitness(%v) = %v, %v disagrees with Corners or CheckEmpty", list, got, ok)
		}
		if !slices.Equal(list, before) {
			t.Fatalf("EmptyWitness changes %v to %v", before, list)
		}
		count[len(got)]++
	}
	if slices.Min(count[:]) < 50 {
		t.Errorf("only %v witnesses of 0, 1, 2 and 3 half-planes", count)
	}
}

func TestP48WitnessesOfAllSmallHalfPlanes(t *testing.T) {
	list := smallHalves(-1, 0)
	for _, f := range list {
		for _, g := range list {
			for _, h := range list {
				three := []impl.HalfPlane{f, g, h}
				got, ok := impl.EmptyWitness(three)
				if want := wantWitnessOfEmpty(three); !slices.Equal(got, want) || ok != (want != nil) {
					t.Fatalf("EmptyWitness(%v) = %v, %v, want %v", three, got, ok, want)
				}
			}
		}
	}
}

func TestP48OrdinaryWitnesses(t *testing.T) {
	for name, c := range map[string]struct {
		list []impl.HalfPlane
		want []int
	}{
		"no half-plane":            {nil, nil},
		"one":                      {halves(1, 1, 0), nil},
		"empty one":                {halves(1, 1, -2001), []int{0}},
		"just not empty one":       {halves(1, 1, -2000), nil},
		"second one":               {halves(1, 1, 0, 1, 0, -1001, 0, 1, -1001), []int{1}},
		"two":                      {halves(1, 0, 3, -1, 0, -4), []int{0, 1}},
		"one line":                 {halves(1, 0, 3, -1, 0, -3), nil},
		"two with the square":      {halves(2, 1, -1000, -1, 3, -3600), []int{0, 1}},
		"two of three":             {halves(1, 0, 3, 0, 1, 3, -1, 0, -4), []int{0, 2}},
		"two that are equal":       {halves(1, 0, 3, 1, 0, 3, -1, 0, -4, -1, 0, -4), []int{0, 2}},
		"one is less than two":     {halves(1, 0, 3, -1, 0, -4, 0, -1, -1001), []int{2}},
		"two are less than three":  {halves(1, 1, -1, -1, 0, 0, 0, -1, 0, 1, 0, -2), []int{1, 3}},
		"three":                    {halves(1, 1, -1, -1, 0, 0, 0, -1, 0), []int{0, 1, 2}},
		"three that meet":          {halves(1, 1, 0, -1, 0, 0, 0, -1, 0), nil},
		"last three":               {halves(1, 0, 1000, 0, 1, 1000, 1, 1, 9, 1, -1, 9, -1, 1, 9, 1, 1, -1, -1, 0, 0, 0, -1, 0), []int{5, 6, 7}},
		"several of three":         {halves(-1, 0, 0, 0, -1, 0, -1, 0, 0, 1, 1, -1, 1, 1, -1), []int{0, 1, 3}},
		"point outside of another": {halves(1, 0, 1, -1, 0, -1, 0, 1, 2, 0, -1, -2, 1, 1, 2), []int{1, 3, 4}},
		"equal empty ones":         {slices.Repeat(halves(0, 1, -1001), 8), []int{0}},
		"equal ones":               {slices.Repeat(halves(0, 1, -1000), 8), nil},
	} {
		got, ok := impl.EmptyWitness(c.list)
		if !slices.Equal(got, c.want) || ok != (c.want != nil) {
			t.Errorf("%s: EmptyWitness(%v) = %v, %v, want %v", name, c.list, got, ok, c.want)
		}
	}
}

// indexLists calls f for all lists of up to most indices that are less than a limit, in any order, with equal ones.
func indexLists(limit int, most int, f func(indices []int)) {
	var extend func(indices []int)
	extend = func(indices []int) {
		f(slices.Clone(indices))
		for i := 0; i < limit && len(indices) < most; i++ {
			extend(append(indices, i))
		}
	}
	extend(nil)
}

func TestP49AcceptedWitnessesProveThatARegionIsEmpty(t *testing.T) {
	accepted, rejected := 0, 0
	for n, list := range someRegions() {
		if n%4 > 0 { // all lists of indices are many
			continue
		}
		before := slices.Clone(list)
		nothing := len(impl.Corners(list)) == 0
		indexLists(len(list), 3, func(indices []int) {
			kept := slices.Clone(indices)
			got := impl.CheckEmpty(list, indices)
			if got != (len(wantCorners(chosenHalves(list, indices))) == 0) || got && !nothing {
				t.Fatalf("CheckEmpty(%v, %v) = %v", list, indices, got)
			}
			if !slices.Equal(indices, kept) || !slices.Equal(list, before) {
				t.Fatalf("CheckEmpty changes %v, %v", before, kept)
			}
			if got {
				accepted++
			} else {
				rejected++
			}
		})
	}
	if min(accepted, rejected) < 1000 {
		t.Errorf("only %d accepted and %d rejected", accepted, rejected)
	}
}

func TestP49IndicesOfAnyOrder(t *testing.T) {
	list := halves(1, 1, -1, -1, 0, 0, 0, -1, 0, 1, 0, -1001)
	for _, indices := range [][]int{{0, 1, 2}, {2, 1, 0}, {1, 0, 2}, {3}, {3, 3}, {3, 3, 3}, {0, 3}, {3, 0}, {2, 3, 1}} {
		if !impl.CheckEmpty(list, indices) {
			t.Errorf("CheckEmpty does not accept %v", indices)
		}
	}
	for _, indices := range [][]int{nil, {}, {0}, {1}, {0, 1}, {2, 0}, {0, 0, 1}, {2, 2, 2}} {
		if impl.CheckEmpty(list, indices) {
			t.Errorf("CheckEmpty accepts %v", indices)
		}
	}
}

func TestP49InvalidIndices(t *testing.T) {
	list := halves(1, 0, -1001, -1, 0, -1001, 0, 1, -1001, 1, 1, 5)
	for _, indices := range [][]int{
		{-1}, {4}, {0, 4}, {4, 0}, {0, 1, 4}, {-1, 0, 1}, {0, -1, 1}, {0, 1, -1}, {math.MinInt}, {math.MaxInt}, {0, math.MinInt}, {math.MaxInt, 0, 1},
		{0, 1, 2, 3}, {0, 0, 0, 0}, {0, 1, 2, 0}, slices.Repeat([]int{0}, 1000),
	} {
		if impl.CheckEmpty(list, indices) {
			t.Errorf("CheckEmpty accepts %v", indices)
		}
	}
	if impl.CheckEmpty(nil, nil) || impl.CheckEmpty(nil, []int{0}) || !impl.CheckEmpty(list, []int{0, 1, 2}) {
		t.Error("CheckEmpty of no half-plane, or of three")
	}
}

// redundant reports whether all corners of the other half-planes are in the one with the index k.
func redundant(list []impl.HalfPlane, k int) bool {
	h := list[k]
	for _, c := range wantCorners(slices.Concat(list[:k], list[k+1:])) {
		if sum(product(big1(h.A), fromRat(c.X)), product(big1(h.B), fromRat(c.Y))).Cmp(big1(h.C)) > 0 {
			return false
		}
	}
	return true
}

func TestP50RedundantHalfPlanesCanBeRemoved(t *testing.T) {
	held, failed := 0, 0
	for _, list := range someRegions() {
		array := append(slices.Clone(list), halves(7, 7, 7, 8, 8, 8)...)
		before := slices.Clone(array)
		for k := range list {
			got := impl.IsRedundant(array[:len(list)], k)
			if got != redundant(list, k) {
				t.Fatalf("IsRedundant(%v, %d) = %v", list, k, got)
			}
			if !slices.Equal(array, before) {
				t.Fatalf("IsRedundant changes %v to %v", before, array)
			}
			others := impl.Corners(slices.Concat(list[:k], list[k+1:]))
			same := slices.Equal(others, impl.Corners(list))
			if same != got {
				t.Fatalf("IsRedundant(%v, %d) = %v, but the corners of the others are %s", list, k, got, textOf(others))
			}
			if got {
				held++
			} else {
				failed++
			}
		}
	}
	if min(held, failed) < 1000 {
		t.Errorf("only %d redundant ones, %d others", held, failed)
	}
}

func TestP50OrdinaryRedundancy(t *testing.T) {
	for name, c := range map[string]struct {
		list []impl.HalfPlane
		want []bool
	}{
		"no corner of the square":      {halves(1, 1, 2000), []bool{true}},
		"a corner of the square":       {halves(1, 1, 1999), []bool{false}},
		"empty one":                    {halves(1, 1, -2001), []bool{false}},
		"parallel":                     {halves(1, 0, 5, 1, 0, 3), []bool{true, false}},
		"equal":                        {halves(1, 0, 5, 1, 0, 5), []bool{true, true}},
		"equal, different numbers":     {halves(1, 0, 5, 2, 0, 10), []bool{true, true}},
		"opposite":                     {halves(1, 0, 5, -1, 0, -5), []bool{false, false}},
		"opposite and apart":           {halves(1, 0, 5, -1, 0, -6), []bool{false, false}},
		"nothing beside it":            {halves(1, 0, 5, -1, 0, -6, 1, 1, 1, 0, 1, -3), []bool{false, false, true, true}},
		"two empty ones":               {halves(1, 0, -1001, 0, 1, -1001), []bool{true, true}},
		"through a corner":             {halves(1, 0, 2, 0, 1, 2, 1, 1, 4), []bool{false, false, true}},
		"slightly before a corner":     {halves(2, 0, 3, 0, 2, 3, 3, 3, 8), []bool{false, false, false}},
		"through a corner of thirds":   {halves(3, 0, 1, 0, 3, 1, 3, 3, 2), []bool{false, false, true}},
		"through a point, the region":  {halves(1, 0, 1, -1, 0, -1, 0, 1, 2, 0, -1, -2, 1, 1, 3, 1, -1, -1), []bool{true, false, true, true, true, true}},
		"along a segment, the region":  {halves(0, 1, 0, 0, -1, 0, 0, 3, 0, 1, 0, 5), []bool{true, false, true, false}},
		"segment and a crossing plane": {halves(0, 1, 0, 0, -1, 0, 1, 1, 5), []bool{false, false, false}},
	} {
		for k, want := range c.want {
			if got := impl.IsRedundant(c.list, k); got != want || got != redundant(c.list, k) {
				t.Errorf("%s: IsRedundant(%v, %d) = %v, want %v", name, c.list, k, got, want)
			}
		}
	}
}

func TestP50InvalidIndices(t *testing.T) {
	list := halves(1, 0, 4000000, 1, 0, 4000000)
	for _, k := range []int{-1, 2, 3, math.MinInt, math.MaxInt} {
		if impl.IsRedundant(list, k) {
			t.Errorf("IsRedundant(%d) holds", k)
		}
	}
	if impl.IsRedundant(nil, 0) || impl.IsRedundant(nil, -1) || !impl.IsRedundant(list, 0) || !impl.IsRedundant(list, 1) {
		t.Error("IsRedundant of no half-plane, or of two")
	}
}

func TestP48P49P50InvalidHalfPlanes(t *testing.T) {
	for _, list := range badHalves() {
		if indices, ok := impl.EmptyWitness(list); ok || indices != nil {
			t.Errorf("EmptyWitness(%v) = %v, %v", list, indices, ok)
		}
		for k := -1; k <= len(list); k++ {
			if impl.CheckEmpty(list, []int{k}) || impl.CheckEmpty(list, []int{k, 0}) || impl.CheckEmpty(list, nil) {
				t.Errorf("CheckEmpty(%v, %d) holds", list, k)
			}
			if impl.IsRedundant(list, k) {
				t.Errorf("IsRedundant(%v, %d) holds", list, k)
			}
		}
	}
}

func TestP48ChangedWitnessesDoNotChangeTheNextOnes(t *testing.T) {
	list := halves(1, 1, -1, -1, 0, 0, 0, -1, 0)
	indices, _ := impl.EmptyWitness(list)
	indices = indices[:cap(indices)]
	for i := range indices {
		indices[i] = -7
	}
	if got, ok := impl.EmptyWitness(list); !ok || !slices.Equal(got, []int{0, 1, 2}) {
		t.Errorf("EmptyWitness = %v, %v", got, ok)
	}
}
