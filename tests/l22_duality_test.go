package tests

import (
	"math"
	"math/big"
	"math/rand/v2"
	"slices"
	"testing"

	"loop.example/planargeometry/impl"
)

// graph returns a graph.
func graph(m int, b int) impl.Graph {
	return impl.Graph{M: m, B: b}
}

// graphs returns the graphs with pairs of numbers.
func graphs(n ...int) []impl.Graph {
	var list []impl.Graph
	for i := 0; i+1 < len(n); i += 2 {
		list = append(list, graph(n[i], n[i+1]))
	}
	return list
}

// someGraphs returns graphs with small numbers, at the limits, and others.
func someGraphs() []impl.Graph {
	var list []impl.Graph
	for _, p := range somePoints() {
		list = append(list, graph(p.X, p.Y))
	}
	return list
}

// badGraphs returns graphs that are not valid.
func badGraphs() []impl.Graph {
	var list []impl.Graph
	for _, p := range badPoints() {
		list = append(list, graph(p.X, p.Y))
	}
	return list
}

// wantHeight returns the result that HeightOver should have.
func wantHeight(p impl.Point, g impl.Graph) int {
	switch y := g.M*p.X - g.B; {
	case p.Y > y:
		return 1
	case p.Y < y:
		return -1
	}
	return 0
}

func TestP101DualityIsItsOwnInverse(t *testing.T) {
	for _, p := range append(somePoints(), grid(7, 7, xy(-3, -3))...) {
		g := impl.DualGraph(p)
		if g != graph(p.X, p.Y) || impl.DualPoint(g) != p {
			t.Errorf("DualGraph(%v) = %v, DualPoint of it is %v", p, g, impl.DualPoint(g))
		}
		if g = graph(p.Y, p.X); impl.DualGraph(impl.DualPoint(g)) != g {
			t.Errorf("DualPoint(%v) = %v, DualGraph of it is %v", g, impl.DualPoint(g), impl.DualGraph(impl.DualPoint(g)))
		}
	}
}

func TestP102GraphsHaveDualPoints(t *testing.T) {
	for _, g := range append(someGraphs(), graphs(1000, 1000, -1000, -1000, 1000, -1000, -1000, 1000, 0, 0, 2, 3)...) {
		p := impl.DualPoint(g)
		if !impl.ValidGraph(g) || !impl.ValidPoint(p) || p != xy(g.M, g.B) {
			t.Errorf("DualPoint(%v) = %v, ValidGraph = %v", g, p, impl.ValidGraph(g))
		}
	}
	for _, g := range badGraphs() {
		if impl.ValidGraph(g) {
			t.Errorf("ValidGraph(%v) holds", g)
		}
	}
}

func TestP101P102P103InvalidArguments(t *testing.T) {
	for _, bad := range badPoints() {
		if g := impl.DualGraph(bad); g != (impl.Graph{}) {
			t.Errorf("DualGraph(%v) = %v", bad, g)
		}
		for _, g := range append(someGraphs(), badGraphs()...) {
			if n := impl.HeightOver(bad, g); n != 2 {
				t.Errorf("HeightOver(%v, %v) = %d", bad, g, n)
			}
		}
	}
	for _, bad := range badGraphs() {
		if p := impl.DualPoint(bad); p != (impl.Point{}) {
			t.Errorf("DualPoint(%v) = %v", bad, p)
		}
		for _, p := range somePoints() {
			if n := impl.HeightOver(p, bad); n != 2 {
				t.Errorf("HeightOver(%v, %v) = %d", p, bad, n)
			}
		}
	}
}

func TestP103DualityKeepsAboveAndBelow(t *testing.T) {
	counts := map[int]int{}
	for _, p := range append(somePoints(), grid(7, 7, xy(-3, -3))...) {
		for _, q := range append(somePoints(), grid(7, 7, xy(-3, -3))...) {
			g := graph(q.X, q.Y)
			n := impl.HeightOver(p, g)
			if m := impl.HeightOver(impl.DualPoint(g), impl.DualGraph(p)); n != wantHeight(p, g) || m != n {
				t.Fatalf("HeightOver(%v, %v) = %d, want %d, but %d for the dual ones", p, g, n, wantHeight(p, g), m)
			}
			counts[n]++
		}
	}
	if min(counts[-1], counts[0], counts[1]) < 100 {
		t.Errorf("the points below, on and above graphs are %v", counts)
	}
}

func TestP103OrdinaryHeights(t *testing.T) {
	for _, c := range []struct {
		p    impl.Point
		g    impl.Graph
		want int
	}{
		{xy(0, 0), graph(0, 0), 0}, {xy(5, 1), graph(0, 0), 1}, {xy(5, -1), graph(0, 0), -1}, {xy(0, -3), graph(2, 3), 0}, {xy(0, 3), graph(2, 3), 1},
		{xy(1, -1), graph(2, 3), 0}, {xy(1, 0), graph(2, 3), 1}, {xy(1, -2), graph(2, 3), -1}, {xy(-2, 1), graph(-1, 1), 0}, {xy(-2, 4), graph(-1, -2), 0},
		{xy(1000, 1000), graph(1, 0), 0}, {xy(1000, 1000), graph(2, 1000), 0}, {xy(1000, 999), graph(2, 1000), -1}, {xy(1000, 1000), graph(1000, 1000), -1}, {xy(-1000, -1000), graph(1000, -1000), 1},
	} {
		if n := impl.HeightOver(c.p, c.g); n != c.want {
			t.Errorf("HeightOver(%v, %v) = %d, want %d", c.p, c.g, n, c.want)
		}
	}
}

func TestP104HigherPointsAreAbove(t *testing.T) {
	for _, p := range append(somePoints(), grid(7, 7, xy(-3, -3))...) {
		for _, g := range someGraphs() {
			n := impl.HeightOver(p, g)
			for _, higher := range []int{1, 2, 3, 100, 1000, 1999, 2000} {
				q := xy(p.X, p.Y+higher)
				if !impl.ValidPoint(q) {
					continue
				}
				if m := impl.HeightOver(q, g); m < n || n >= 0 && m != 1 || m != wantHeight(q, g) {
					t.Fatalf("HeightOver(%v, %v) = %d, but %d for %v", p, g, n, m, q)
				}
			}
		}
	}
}

// meetingX returns the X of the common point of graphs with different slopes.
func meetingX(g impl.Graph, h impl.Graph) *big.Rat {
	return exact(g.B-h.B, g.M-h.M)
}

// heightAt returns the Y of a graph at x.
func heightAt(g impl.Graph, x *big.Rat) *big.Rat {
	return difference(product(big1(g.M), x), big1(g.B))
}

// meetingXs returns the different X of the common points of a graph with others, in ascending order.
func meetingXs(list []impl.Graph, g impl.Graph) []*big.Rat {
	var all []*big.Rat
	for _, h := range list {
		if h.M != g.M {
			all = append(all, meetingX(g, h))
		}
	}
	slices.SortFunc(all, func(x, y *big.Rat) int { return x.Cmp(y) })
	return slices.CompactFunc(all, func(x, y *big.Rat) bool { return x.Cmp(y) == 0 })
}

// slabs returns an x before, between and after the points in which graphs meet.
func slabs(list []impl.Graph) []*big.Rat {
	var all []*big.Rat
	for _, g := range list {
		all = append(all, meetingXs(list, g)...)
	}
	if len(all) == 0 {
		return []*big.Rat{big1(0)}
	}
	slices.SortFunc(all, func(x, y *big.Rat) int { return x.Cmp(y) })
	between := []*big.Rat{difference(all[0], big1(1))}
	for i := 1; i < len(all); i++ {
		if all[i-1].Cmp(all[i]) != 0 {
			between = append(between, product(exact(1, 2), sum(all[i-1], all[i])))
		}
	}
	return append(between, sum(all[len(all)-1], big1(1)))
}

// byHeight returns the indices of graphs that do not meet at x, the lowest one first.
func byHeight(list []impl.Graph, x *big.Rat) []int {
	order := indicesWith(len(list), func(int) bool { return true })
	slices.SortFunc(order, func(i, k int) int { return heightAt(list[i], x).Cmp(heightAt(list[k], x)) })
	return order
}

// wantArrangement returns the results that Arrangement should have for valid
// graphs. A face is known by the graphs that are below it.
func wantArrangement(list []impl.Graph) [3]int {
	vertices, edges, faces := map[[2]string]bool{}, 0, map[int]bool{}
	for _, g := range list {
		xs := meetingXs(list, g)
		edges += len(xs) + 1
		for _, x := range xs {
			vertices[[2]string{x.RatString(), heightAt(g, x).RatString()}] = true
		}
	}
	for _, x := range slabs(list) {
		below := 0
		faces[below] = true
		for _, i := range byHeight(list, x) {
			below |= 1 << i
			faces[below] = true
		}
	}
	return [3]int{len(vertices), edges, len(faces)}
}

// arrangementOf returns the results of Arrangement as one value.
func arrangementOf(list []impl.Graph) [3]int {
	v, e, f := impl.Arrangement(list)
	return [3]int{v, e, f}
}

// wantEnvelope returns the result that UpperEnvelope should have for valid graphs.
func wantEnvelope(list []impl.Graph) []int {
	var highest []int
	if len(list) == 0 {
		return nil
	}
	for _, x := range slabs(list) {
		highest = append(highest, byHeight(list, x)[len(list)-1])
	}
	return slices.Compact(highest)
}

// randomGraphs returns up to MaxGraphs different graphs of those that next returns.
func randomGraphs(r *rand.Rand, next func() impl.Graph) []impl.Graph {
	var list []impl.Graph
	for range r.IntN(impl.MaxGraphs + 1) {
		if g := next(); impl.ValidGraph(g) && !slices.Contains(list, g) {
			list = append(list, g)
		}
	}
	return list
}

// graphLists returns lists of different graphs: with small and with large
// numbers, through one point, of one slope, and that touch the envelope.
func graphLists() [][]impl.Graph {
	lists := [][]impl.Graph{nil, {}, {graph(0, 0)}, {graph(1000, -1000)}}
	r := fixedRandom()
	for range 300 {
		p := randomPoint(r, 3)
		within := func(most int) func() impl.Graph {
			return func() impl.Graph { return graph(r.IntN(2*most+1)-most, r.IntN(2*most+1)-most) }
		}
		through := func() impl.Graph { m := r.IntN(9) - 4; return graph(m, m*p.X-p.Y) }
		below := func() impl.Graph { m := r.IntN(9) - 4; return graph(m, m*p.X-p.Y+r.IntN(2)) }
		tangent := func() impl.Graph { m := r.IntN(41) - 20; return graph(m, m*m+r.IntN(2)) }
		oneSlope := func() impl.Graph { return graph(p.X, r.IntN(21)-10) }
		for _, next := range []func() impl.Graph{within(1), within(2), within(4), within(1000), through, below, tangent, oneSlope} {
			lists = append(lists, randomGraphs(r, next))
		}
	}
	return lists
}

// badGraphLists returns lists of graphs that are not valid, are equal, or are too many.
func badGraphLists() [][]impl.Graph {
	many := graphs(0, 0, 0, 1, 0, 2, 1, 0, 1, 1, 1, 2, 2, 0, 2, 1, 2, 2)
	lists := [][]impl.Graph{many, many[:impl.MaxGraphs+1], make([]impl.Graph, 1000), graphs(1, 2, 1, 2), graphs(1, 2, 3, 4, 1, 2), graphs(0, 0, 5, 5, 3, 4, 5, 5)}
	lists = append(lists, slices.Concat(many[:impl.MaxGraphs-1], many[:1]))
	for _, bad := range badGraphs() {
		lists = append(lists, []impl.Graph{bad}, append(graphs(0, 0, 1, 1), bad), append([]impl.Graph{bad}, graphs(0, 0, 1, 1)...))
	}
	return lists
}

// keepsGraphs fails the test if a function changes its list of graphs.
func keepsGraphs(t *testing.T, name string, list []impl.Graph, f func(list []impl.Graph)) {
	t.Helper()
	array := append(slices.Clone(list), graph(7, 7), graph(8, 8))
	before := slices.Clone(array)
	f(array[:len(list)])
	if !slices.Equal(array, before) {
		t.Errorf("%s changes %v to %v", name, before, array)
	}
}

func TestP105TheFormulaOfEulerHolds(t *testing.T) {
	severalInOne := 0
	for _, list := range graphLists() {
		var got [3]int
		keepsGraphs(t, "Arrangement", list, func(list []impl.Graph) { got = arrangementOf(list) })
		if want := wantArrangement(list); got != want {
			t.Fatalf("Arrangement(%v) = %v, want %v", list, got, want)
		}
		n, v, e, f := len(list), got[0], got[1], got[2]
		if v-e+f != 1 || v > n*(n-1)/2 || e > n*n || f < n+1 {
			t.Fatalf("Arrangement(%v) = %v", list, got)
		}
		if v > 0 && f < n+1+v { // each vertex of two graphs adds one face, and one of more graphs adds more
			t.Fatalf("Arrangement(%v) = %v has too few faces", list, got)
		}
		if f > n+1+v {
			severalInOne++
		}
	}
	if severalInOne < 300 {
		t.Errorf("only %d arrangements have a vertex of more than two graphs", severalInOne)
	}
}

func TestP105P108AllSmallLists(t *testing.T) {
	for n := range 5 {
		sequences(grid(3, 3, xy(-1, -1)), n, func(points []impl.Point) {
			var list []impl.Graph
			for _, p := range points {
				if slices.Contains(list, graph(p.X, p.Y)) {
					return
				}
				list = append(list, graph(p.X, p.Y))
			}
			if got, want := arrangementOf(list), wantArrangement(list); got != want {
				t.Fatalf("Arrangement(%v) = %v, want %v", list, got, want)
			}
			if got, want := impl.UpperEnvelope(list), wantEnvelope(list); !slices.Equal(got, want) {
				t.Fatalf("UpperEnvelope(%v) = %v, want %v", list, got, want)
			}
		})
	}
}

func TestP105OrdinaryArrangements(t *testing.T) {
	for name, c := range map[string]struct {
		list []impl.Graph
		want [3]int
	}{
		"nothing":              {nil, [3]int{0, 0, 1}},
		"one graph":            {graphs(5, 7), [3]int{0, 1, 2}},
		"two graphs":           {graphs(0, 0, 1, 0), [3]int{1, 4, 4}},
		"a fraction":           {graphs(3, 1, 1, 0), [3]int{1, 4, 4}},
		"parallel":             {graphs(1, 0, 1, 1), [3]int{0, 2, 3}},
		"a triangle":           {graphs(0, 0, 1, 0, -1, -1), [3]int{3, 9, 7}},
		"through one point":    {graphs(0, 0, 1, 0, -1, 0), [3]int{1, 6, 6}},
		"through one fraction": {graphs(1, 1, 3, 2, 5, 3), [3]int{1, 6, 6}},
		"all through one":      {graphs(0, 1, 1, 1, 2, 1, 3, 1, 4, 1, -1, 1, -2, 1, -3, 1), [3]int{1, 16, 16}},
		"one across":           {graphs(0, 0, 0, 1, 0, 2, 0, 3, 5, 0), [3]int{4, 13, 10}},
		"two slopes":           {graphs(0, 0, 0, 1, 1, 0, 1, 1), [3]int{4, 12, 9}},
		"two points, one line": {graphs(0, 0, 1, 0, -1, 0, 1, 2, -1, -2), [3]int{4, 15, 12}},
		"two of one height":    {graphs(1, 0, -1, 0, 1, 2, -1, -2), [3]int{4, 12, 9}},
		"all different":        {graphs(0, 0, 1, 1, 2, 4, 3, 9, 4, 16, 5, 25, 6, 36, 7, 49), [3]int{28, 64, 37}},
		"eight of one slope":   {graphs(7, 0, 7, 1, 7, 2, 7, 3, 7, 4, 7, 5, 7, 6, 7, 7), [3]int{0, 8, 9}},
		"the limits":           {graphs(1000, 1000, -1000, 1000, 1000, -1000, -1000, -1000, 999, 1000), [3]int{6, 18, 13}},
		"near to each other":   {graphs(1000, 1000, 999, 1000, -1000, -999, -999, -1000), [3]int{6, 16, 11}},
	} {
		if got := arrangementOf(c.list); got != c.want {
			t.Errorf("%s: Arrangement(%v) = %v, want %v", name, c.list, got, c.want)
		}
	}
}

func TestP105P106P108InvalidLists(t *testing.T) {
	for _, list := range badGraphLists() {
		if got := arrangementOf(list); got != [3]int{-1, -1, -1} {
			t.Errorf("Arrangement(%v) = %v", list, got)
		}
		if got := impl.UpperEnvelope(list); got != nil {
			t.Errorf("UpperEnvelope(%v) = %v", list, got)
		}
	}
}

func TestP105P108NumberOfGraphs(t *testing.T) {
	for n := range 3 * impl.MaxGraphs {
		var list []impl.Graph
		var all []int
		for i := range n {
			list = append(list, graph(i, i*i))
			all = append(all, i)
		}
		want := [3]int{n * (n - 1) / 2, n * n, n*(n+1)/2 + 1}
		if n > 8 {
			want, all = [3]int{-1, -1, -1}, nil
		}
		if got, envelope := arrangementOf(list), impl.UpperEnvelope(list); got != want || !slices.Equal(envelope, all) {
			t.Errorf("Arrangement of %d graphs = %v, UpperEnvelope = %v", n, got, envelope)
		}
	}
	// These must not take long, though they are many.
	if got := arrangementOf(make([]impl.Graph, 10000000)); got != [3]int{-1, -1, -1} {
		t.Errorf("Arrangement of ten million graphs = %v", got)
	}
}

// someOf calls f for each part of a list of graphs: the beginnings, the ends, and those without one graph.
func someOf(list []impl.Graph, f func(part []impl.Graph)) {
	for i := range list {
		f(list[:i])
		f(list[i:])
		f(slices.Delete(slices.Clone(list), i, i+1))
	}
}

func TestP106MoreGraphsGiveMoreFaces(t *testing.T) {
	same, more := 0, 0
	for _, list := range graphLists() {
		all := arrangementOf(list)
		someOf(list, func(part []impl.Graph) {
			got := arrangementOf(part)
			if got[0] > all[0] || got[1] > all[1] || got[2] > all[2] || len(part) < len(list) && got[2] == all[2] {
				t.Fatalf("Arrangement(%v) = %v, but %v of %v", list, all, got, part)
			}
			if got[0] == all[0] {
				same++
			} else {
				more++
			}
		})
	}
	if min(same, more) < 1000 {
		t.Errorf("only %d have as many vertices and %d more", same, more)
	}
}

func TestP107ParallelGraphsDoNotMeet(t *testing.T) {
	for _, m := range []int{-1000, -1, 0, 1, 7, 1000} {
		for n := range impl.MaxGraphs + 1 {
			var list []impl.Graph
			for i := range n {
				list = append(list, graph(m, (i*i*17+i)%1000-500))
			}
			if got := arrangementOf(list); got != [3]int{0, n, n + 1} {
				t.Errorf("Arrangement(%v) = %v", list, got)
			}
			if got := impl.UpperEnvelope(list); len(got) != min(n, 1) || !slices.Equal(got, wantEnvelope(list)) {
				t.Errorf("UpperEnvelope(%v) = %v", list, got)
			}
		}
	}
}

// highestAt returns the Y of the highest of some graphs at x.
func highestAt(list []impl.Graph, x *big.Rat) *big.Rat {
	best := heightAt(list[0], x)
	for _, g := range list {
		if y := heightAt(g, x); y.Cmp(best) > 0 {
			best = y
		}
	}
	return best
}

func TestP108TheEnvelopeIsHighest(t *testing.T) {
	for _, list := range graphLists() {
		var got []int
		keepsGraphs(t, "UpperEnvelope", list, func(list []impl.Graph) { got = impl.UpperEnvelope(list) })
		if want := wantEnvelope(list); !slices.Equal(got, want) {
			t.Fatalf("UpperEnvelope(%v) = %v, want %v", list, got, want)
		}
		var chosen []impl.Graph
		for k, i := range got {
			chosen = append(chosen, list[i])
			if k > 0 && chosen[k-1].M >= chosen[k].M {
				t.Fatalf("UpperEnvelope(%v) = %v, whose slopes are not ascending", list, got)
			}
		}
		if len(list) == 0 {
			continue
		}
		places := slabs(list)
		for _, g := range list {
			places = append(places, meetingXs(list, g)...)
		}
		for _, x := range append(places, big1(-1000000), big1(1000000)) {
			if highestAt(chosen, x).Cmp(highestAt(list, x)) != 0 {
				t.Fatalf("UpperEnvelope(%v) = %v is not highest at %v", list, got, x)
			}
		}
	}
}

func TestP108OrdinaryEnvelopes(t *testing.T) {
	for name, c := range map[string]struct {
		list []impl.Graph
		want []int
	}{
		"nothing":                {nil, nil},
		"one graph":              {graphs(5, 7), []int{0}},
		"two graphs":             {graphs(1, 0, -1, 0), []int{1, 0}},
		"one slope":              {graphs(2, 5, 2, -3, 2, 4), []int{1}},
		"of one slope below":     {graphs(0, 1, 0, 0, 1, 0, -1, 0), []int{3, 2}},
		"touches in one point":   {graphs(0, 0, 1, 0, -1, 0), []int{2, 1}},
		"just above that point":  {graphs(0, -1, 1, 0, -1, 0), []int{2, 0, 1}},
		"just below that point":  {graphs(0, 1, 1, 0, -1, 0), []int{2, 1}},
		"touches in a fraction":  {graphs(1, 1, 3, 2, 5, 3, 2, 2), []int{0, 2}},
		"two touch in one point": {graphs(3, 0, 1, 0, -1, 0, 0, 0, -7, 0), []int{4, 0}},
		"an equal slope first":   {graphs(-1, 3, -1, 0, 1, 3, 1, 0), []int{1, 3}},
		"an equal slope last":    {graphs(1, 0, 1, 3, -1, 0, -1, 3), []int{2, 0}},
		"a tangent of each":      {graphs(2, 4, -2, 4, 0, 0, 1, 1, -1, 1), []int{1, 4, 2, 3, 0}},
		"far away":               {graphs(0, -1000, 1, 1000, -1, 1000), []int{2, 0, 1}},
		"the limits":             {graphs(1000, 1000, -1000, 1000, 999, -1000), []int{1, 2, 0}},
		"steep and far apart":    {graphs(1000, 1000, 999, -1000, -1000, -1000), []int{2, 1, 0}},
	} {
		if got := impl.UpperEnvelope(c.list); !slices.Equal(got, c.want) {
			t.Errorf("%s: UpperEnvelope(%v) = %v, want %v", name, c.list, got, c.want)
		}
	}
}

func TestP109TheEnvelopeHasTheExtremeSlopes(t *testing.T) {
	r := fixedRandom()
	for _, list := range graphLists() {
		if len(list) == 0 {
			continue
		}
		smallest, largest := math.MaxInt, math.MinInt
		for _, g := range list {
			smallest, largest = min(smallest, g.M), max(largest, g.M)
		}
		r.Shuffle(len(list), func(i, k int) { list[i], list[k] = list[k], list[i] })
		got := impl.UpperEnvelope(list)
		if len(got) == 0 || list[got[0]].M != smallest || list[got[len(got)-1]].M != largest {
			t.Fatalf("UpperEnvelope(%v) = %v, but the slopes are %d to %d", list, got, smallest, largest)
		}
	}
}

func TestP105P108GraphsInAnyOrder(t *testing.T) {
	r := fixedRandom()
	for _, list := range graphLists() {
		other := slices.Clone(list)
		r.Shuffle(len(other), func(i, k int) { other[i], other[k] = other[k], other[i] })
		if arrangementOf(other) != arrangementOf(list) {
			t.Fatalf("Arrangement(%v) = %v, in another order %v", list, arrangementOf(list), arrangementOf(other))
		}
		var a, b []impl.Graph
		for _, i := range impl.UpperEnvelope(list) {
			a = append(a, list[i])
		}
		for _, i := range impl.UpperEnvelope(other) {
			b = append(b, other[i])
		}
		if !slices.Equal(a, b) {
			t.Fatalf("UpperEnvelope(%v) has %v, in another order %v", list, a, b)
		}
	}
}
