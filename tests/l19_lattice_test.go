package tests

import (
	"math"
	"math/big"
	"math/rand/v2"
	"slices"
	"testing"

	"loop.example/planargeometry/impl"
)

// mat returns a matrix with four entries.
func mat(a int, b int, c int, d int) impl.Matrix {
	return impl.Matrix{A: a, B: b, C: c, D: d}
}

// unit is the matrix that changes nothing.
var unit = mat(1, 0, 0, 1)

// smallMatrices returns all matrices with entries in -most..most.
func smallMatrices(most int) []impl.Matrix {
	var list []impl.Matrix
	entries := grid(2*most+1, 2*most+1, xy(-most, -most))
	for _, p := range entries {
		for _, q := range entries {
			list = append(list, mat(p.X, p.Y, q.X, q.Y))
		}
	}
	return list
}

// largeMatrices returns matrices with entries at the limits, and others.
func largeMatrices() []impl.Matrix {
	list := []impl.Matrix{
		mat(1000, 1000, 1000, 1000), mat(-1000, -1000, -1000, -1000), mat(1000, -1000, 1000, 1000), mat(1000, 1000, 1000, -1000),
		mat(1000, 0, 0, 1), mat(1, 0, 0, -1000), mat(0, 1000, 1, 0), mat(0, 1, -1000, 0), mat(31, 31, 31, 31), mat(32, 32, 32, 32),
	}
	r := fixedRandom()
	for range 60 {
		for _, most := range []int{5, 20, 40, impl.MaxEntry} {
			p, q := randomPoint(r, most), randomPoint(r, most)
			list = append(list, mat(p.X, p.Y, q.X, q.Y))
		}
	}
	return list
}

// unimodular returns matrices with the determinants 1 and -1: all small ones,
// some with entries at the limits, and products of shears.
func unimodular() []impl.Matrix {
	list := []impl.Matrix{
		mat(1000, 999, 1, 1), mat(999, 1000, 1, 1), mat(1000, 1, 999, 1), mat(1, -1000, 0, 1), mat(1, 0, 1000, -1), mat(1000, -1, -999, 1),
		mat(-1000, 1, -1, 0), mat(0, 1, 1, -1000), mat(1, 1000, 0, -1), mat(999, 998, 1000, 999), mat(999, 1000, 998, 999), mat(610, 377, 377, 233),
	}
	for _, m := range smallMatrices(2) {
		if d := m.A*m.D - m.B*m.C; d == 1 || d == -1 {
			list = append(list, m)
		}
	}
	r := fixedRandom()
	for len(list) < 400 {
		m := unit
		for range 1 + r.IntN(5) {
			m = randomShear(r, m)
		}
		if max(m.A, m.B, m.C, m.D) <= impl.MaxEntry && min(m.A, m.B, m.C, m.D) >= -impl.MaxEntry {
			list = append(list, m)
		}
	}
	return list
}

// randomShear adds a multiple of a row of a matrix to the other one, or
// exchanges both, which negates the determinant.
func randomShear(r *rand.Rand, m impl.Matrix) impl.Matrix {
	n := r.IntN(13) - 6
	switch r.IntN(3) {
	case 0:
		return mat(m.A+n*m.C, m.B+n*m.D, m.C, m.D)
	case 1:
		return mat(m.A, m.B, m.C+n*m.A, m.D+n*m.B)
	}
	return mat(m.C, m.D, m.A, m.B)
}

// badMatrices returns matrices that are not valid. Some of them seem to have
// the determinant 1 or entries within the limits after an overflow.
func badMatrices() []impl.Matrix {
	list := []impl.Matrix{
		mat(1001, 1000, 1, 1), mat(1000, 1001, 1, 1), mat(1, 0, 1001, 1), mat(1, 1, 1000, 1001), mat(-1, 0, 0, 1001),
		mat(math.MaxInt, 0, 0, math.MaxInt), mat(math.MinInt, 1, 1, math.MinInt), mat(0, math.MaxInt, math.MaxInt, 0), mat(1, math.MinInt, 0, 1),
		mat(1<<32, 1, -1, 1<<32), mat(1<<62, 0, 0, 4), mat(math.MinInt, math.MinInt, math.MinInt, math.MinInt),
	}
	for _, bad := range []int{1001, -1001, 1002, 1000000, math.MaxInt, math.MinInt, math.MinInt + 1} {
		list = append(list, mat(bad, 0, 0, 1), mat(1, bad, 0, 1), mat(1, 0, bad, 1), mat(1, 0, 0, bad))
	}
	return list
}

// mapped returns the point to which a matrix maps another one.
func mapped(m impl.Matrix, p impl.Point) impl.Point {
	return xy(m.A*p.X+m.B*p.Y, m.C*p.X+m.D*p.Y)
}

// mappedList returns the points to which a matrix maps others, and whether all are valid.
func mappedList(m impl.Matrix, list []impl.Point) ([]impl.Point, bool) {
	var out []impl.Point
	ok := true
	for _, p := range list {
		q := mapped(m, p)
		ok = ok && max(q.X, q.Y, -q.X, -q.Y) <= impl.MaxCoord
		out = append(out, q)
	}
	if !ok {
		return nil, false
	}
	return out, true
}

// composed returns the matrix that maps as b does and then as a does, from the
// points to which this maps the unit vectors, and whether it is valid.
func composed(a impl.Matrix, b impl.Matrix) (impl.Matrix, bool) {
	p, q := mapped(a, mapped(b, xy(1, 0))), mapped(a, mapped(b, xy(0, 1)))
	if max(p.X, p.Y, q.X, q.Y) > impl.MaxEntry || min(p.X, p.Y, q.X, q.Y) < -impl.MaxEntry {
		return impl.Matrix{}, false
	}
	return mat(p.X, q.X, p.Y, q.Y), true
}

// matrixPairs calls f for all pairs of small matrices, and for many of others.
func matrixPairs(f func(a impl.Matrix, b impl.Matrix)) {
	for _, list := range [][]impl.Matrix{smallMatrices(1), append(largeMatrices(), unimodular()...)} {
		for _, a := range list {
			for _, b := range list {
				f(a, b)
			}
		}
	}
}

// fails returns whether a result is that of an invalid matrix.
func fails(m impl.Matrix, ok bool) bool {
	return !ok && m == impl.Matrix{}
}

func TestP80DeterminantsAreMultiplicative(t *testing.T) {
	valid, beyond := 0, 0
	matrixPairs(func(a, b impl.Matrix) {
		m, ok := impl.ComposeMatrices(a, b)
		if !ok {
			beyond++
			return
		}
		valid++
		if d := impl.Determinant(m); d != impl.Determinant(a)*impl.Determinant(b) {
			t.Fatalf("Determinant of ComposeMatrices(%v, %v) = %d", a, b, d)
		}
	})
	if min(valid, beyond) < 1000 {
		t.Errorf("only %d pairs have a product and %d do not", valid, beyond)
	}
}

func TestP80DeterminantsAreAreas(t *testing.T) {
	for _, m := range slices.Concat(smallMatrices(3), largeMatrices(), unimodular()) {
		// The unit square is mapped to a parallelogram.
		want := crossOf(xy(0, 0), mapped(m, xy(1, 0)), mapped(m, xy(0, 1)))
		if d := impl.Determinant(m); d != want {
			t.Fatalf("Determinant(%v) = %d, want %d", m, d, want)
		}
	}
}

func TestP80LargeDeterminantsAreExact(t *testing.T) {
	for _, m := range largeMatrices() {
		left := new(big.Int).Mul(big.NewInt(int64(m.A)), big.NewInt(int64(m.D)))
		right := new(big.Int).Mul(big.NewInt(int64(m.B)), big.NewInt(int64(m.C)))
		if want := left.Sub(left, right); big.NewInt(int64(impl.Determinant(m))).Cmp(want) != 0 {
			t.Errorf("Determinant(%v) = %d, want %v", m, impl.Determinant(m), want)
		}
	}
}

func TestP80OrdinaryDeterminants(t *testing.T) {
	for _, c := range []struct {
		m    impl.Matrix
		want int
	}{
		{unit, 1}, {mat(0, 0, 0, 0), 0}, {mat(0, 1, 1, 0), -1}, {mat(0, -1, 1, 0), 1}, {mat(-1, 0, 0, -1), 1}, {mat(-1, 0, 0, 1), -1},
		{mat(2, 1, 1, 1), 1}, {mat(1, 2, 3, 4), -2}, {mat(4, 3, 2, 1), -2}, {mat(3, 1, 4, 2), 2}, {mat(2, 4, 3, 6), 0}, {mat(5, 0, 7, 3), 15}, {mat(0, 5, 7, 3), -35},
		{mat(1000, -1000, 1000, 1000), 2000000}, {mat(1000, 1000, 1000, -1000), -2000000}, {mat(1000, 1000, 1000, 1000), 0},
	} {
		if d := impl.Determinant(c.m); d != c.want {
			t.Errorf("Determinant(%v) = %d, want %d", c.m, d, c.want)
		}
	}
}

func TestP80P81P82P83P84InvalidMatrices(t *testing.T) {
	for _, bad := range badMatrices() {
		if d := impl.Determinant(bad); d != 0 {
			t.Errorf("Determinant(%v) = %d", bad, d)
		}
		if m, ok := impl.InvertMatrix(bad); !fails(m, ok) {
			t.Errorf("InvertMatrix(%v) = %v, %v", bad, m, ok)
		}
		for _, good := range []impl.Matrix{unit, mat(0, 0, 0, 0), mat(0, 1, 1, 0), mat(1, 0, 0, 0), mat(0, 0, 0, 1), mat(1000, 1000, 1000, 1000), bad} {
			if m, ok := impl.ComposeMatrices(bad, good); !fails(m, ok) {
				t.Errorf("ComposeMatrices(%v, %v) = %v, %v", bad, good, m, ok)
			}
			if m, ok := impl.ComposeMatrices(good, bad); !fails(m, ok) {
				t.Errorf("ComposeMatrices(%v, %v) = %v, %v", good, bad, m, ok)
			}
		}
		for _, list := range [][]impl.Point{nil, {}, {xy(0, 0)}, {xy(0, 0), xy(1, 0), xy(0, 1)}} {
			if got, ok := impl.MapPoints(bad, list); got != nil || ok {
				t.Errorf("MapPoints(%v, %v) = %v, %v", bad, list, got, ok)
			}
		}
	}
}

func TestP81CompositionIsMappingTwice(t *testing.T) {
	lists := [][]impl.Point{nil, {xy(0, 0)}, {xy(1, 0), xy(0, 1)}, grid(3, 3, xy(-1, -1)), {xy(3, -2), xy(3, -2), xy(-5, 7)}, {xy(25, 25)}}
	twice := 0
	matrixPairs(func(a, b impl.Matrix) {
		m, ok := impl.ComposeMatrices(a, b)
		if want, valid := composed(a, b); m != want || ok != valid {
			t.Fatalf("ComposeMatrices(%v, %v) = %v, %v, want %v", a, b, m, ok, want)
		}
		for _, list := range lists {
			first, ok1 := impl.MapPoints(b, list)
			second, ok2 := impl.MapPoints(a, first)
			both, ok3 := impl.MapPoints(m, list)
			if ok && ok1 && ok2 && ok3 {
				twice++
				sameList(t, "MapPoints with ComposeMatrices", both, second)
			}
		}
	})
	if twice < 10000 {
		t.Errorf("only %d lists are mapped twice", twice)
	}
}

func TestP81OrdinaryCompositions(t *testing.T) {
	none := impl.Matrix{}
	for _, c := range []struct{ a, b, want impl.Matrix }{
		{mat(1, 2, 3, 4), mat(5, 6, 7, 8), mat(19, 22, 43, 50)}, {mat(5, 6, 7, 8), mat(1, 2, 3, 4), mat(23, 34, 31, 46)},
		{mat(1, 1, 0, 1), mat(0, -1, 1, 0), mat(1, -1, 1, 0)}, {mat(0, -1, 1, 0), mat(1, 1, 0, 1), mat(0, -1, 1, 1)},
		{mat(-2, 0, 0, 3), mat(1, 2, 3, 4), mat(-2, -4, 9, 12)}, {mat(1, 2, 3, 4), mat(-2, 0, 0, 3), mat(-2, 6, -6, 12)},
		// Each entry at the limit, and then beyond it.
		{mat(1, 1, 0, 0), mat(500, 0, 500, 0), mat(1000, 0, 0, 0)}, {mat(1, 1, 0, 0), mat(500, 0, 501, 0), none},
		{mat(1, 1, 0, 0), mat(0, 500, 0, 500), mat(0, 1000, 0, 0)}, {mat(1, 1, 0, 0), mat(0, 500, 0, 501), none},
		{mat(0, 0, 1, 1), mat(500, 0, 500, 0), mat(0, 0, 1000, 0)}, {mat(0, 0, 1, 1), mat(500, 0, 501, 0), none},
		{mat(0, 0, 1, 1), mat(0, 500, 0, 500), mat(0, 0, 0, 1000)}, {mat(0, 0, 1, 1), mat(0, 500, 0, 501), none},
		{mat(1, 1, 0, 0), mat(-500, 0, -500, 0), mat(-1000, 0, 0, 0)}, {mat(1, 1, 0, 0), mat(-500, 0, -501, 0), none},
		{mat(1, 1, 0, 0), mat(0, -500, 0, -501), none}, {mat(0, 0, 1, 1), mat(-500, 0, -501, 0), none}, {mat(0, 0, 1, 1), mat(0, -500, 0, -501), none},
		{mat(1000, 1000, 1000, 1000), mat(1000, 1000, 1000, 1000), none}, {mat(1000, 1000, 1000, 1000), mat(1, -1, -1, 1), mat(0, 0, 0, 0)},
		{mat(1000, -1000, 1000, -1000), mat(1000, 1000, 1000, 1000), mat(0, 0, 0, 0)}, {mat(0, 0, 0, 0), mat(1000, 1000, 1000, 1000), none},
	} {
		// The zero matrix is also a valid result.
		want, valid := composed(c.a, c.b)
		if m, ok := impl.ComposeMatrices(c.a, c.b); m != c.want || m != want || ok != valid {
			t.Errorf("ComposeMatrices(%v, %v) = %v, %v, want %v", c.a, c.b, m, ok, c.want)
		}
	}
}

func TestP82TheUnitMatrixChangesNothing(t *testing.T) {
	for _, m := range slices.Concat(smallMatrices(2), largeMatrices(), unimodular()) {
		for _, pair := range [][2]impl.Matrix{{m, unit}, {unit, m}} {
			if got, ok := impl.ComposeMatrices(pair[0], pair[1]); !ok || got != m {
				t.Fatalf("ComposeMatrices(%v) = %v, %v", pair, got, ok)
			}
		}
	}
}

func TestP83InversesUndo(t *testing.T) {
	for _, m := range unimodular() {
		inverse, ok := impl.InvertMatrix(m)
		if !ok {
			t.Fatalf("InvertMatrix(%v) fails", m)
		}
		for _, pair := range [][2]impl.Matrix{{m, inverse}, {inverse, m}} {
			if got, ok := impl.ComposeMatrices(pair[0], pair[1]); !ok || got != unit {
				t.Fatalf("InvertMatrix(%v) = %v, but ComposeMatrices(%v) = %v, %v", m, inverse, pair, got, ok)
			}
		}
		if back, ok := impl.InvertMatrix(inverse); !ok || back != m {
			t.Fatalf("the inverse of %v, the inverse of %v, is %v, %v", inverse, m, back, ok)
		}
	}
}

func TestP83OtherMatricesHaveNoInverse(t *testing.T) {
	none := 0
	for _, m := range slices.Concat(smallMatrices(3), largeMatrices()) {
		d := m.A*m.D - m.B*m.C
		inverse, ok := impl.InvertMatrix(m)
		if ok != (d == 1 || d == -1) || !ok && !fails(inverse, ok) {
			t.Fatalf("InvertMatrix(%v) = %v, %v, but the determinant is %d", m, inverse, ok, d)
		}
		if !ok {
			none++
		}
	}
	if none < 1000 {
		t.Errorf("only %d matrices have no inverse", none)
	}
}

func TestP83OrdinaryInverses(t *testing.T) {
	none := impl.Matrix{}
	for _, c := range []struct{ m, want impl.Matrix }{
		{unit, unit}, {mat(2, 1, 1, 1), mat(1, -1, -1, 2)}, {mat(1, 2, 1, 1), mat(-1, 2, 1, -1)}, {mat(0, 1, 1, 0), mat(0, 1, 1, 0)}, {mat(0, -1, 1, 0), mat(0, 1, -1, 0)},
		{mat(1, 5, 0, -1), mat(1, 5, 0, -1)}, {mat(1, 5, 0, 1), mat(1, -5, 0, 1)}, {mat(-1, 0, 0, -1), mat(-1, 0, 0, -1)}, {mat(-3, 2, 7, -5), mat(-5, -2, -7, -3)},
		{mat(1000, 999, 1, 1), mat(1, -999, -1, 1000)}, {mat(999, 1000, 1, 1), mat(-1, 1000, 1, -999)}, {mat(1, -1000, 0, 1), mat(1, 1000, 0, 1)},
		{mat(0, 0, 0, 0), none}, {mat(2, 0, 0, 1), none}, {mat(1, 0, 0, -2), none}, {mat(1, 1, 1, 1), none}, {mat(1000, 1, 999, 2), none},
	} {
		if m, ok := impl.InvertMatrix(c.m); m != c.want || ok != (c.want != none) {
			t.Errorf("InvertMatrix(%v) = %v, %v, want %v", c.m, m, ok, c.want)
		}
	}
}

// mapLists returns lists of points, most of them with small coordinates.
func mapLists() [][]impl.Point {
	lists := [][]impl.Point{
		nil, {}, {xy(0, 0)}, {xy(7, -3), xy(7, -3)}, grid(5, 4, xy(-2, -2)), somePoints(), manyPoints(impl.MaxPoints),
		make([]impl.Point, impl.MaxPoints), {xy(1000, 1000), xy(-1000, 1000)}, {xy(0, 0), xy(0, 1), xy(1000, -1000)},
	}
	r := fixedRandom()
	for range 20 {
		lists = append(lists, randomList(r, impl.MaxPoints), pointsOnLine(r))
	}
	return lists
}

func TestP84MappingCanBeUndone(t *testing.T) {
	undone, beyond := 0, 0
	for _, m := range unimodular() {
		inverse, _ := impl.InvertMatrix(m)
		for _, list := range mapLists() {
			there, ok := impl.MapPoints(m, list)
			if !ok {
				beyond++
				continue
			}
			undone++
			back, ok := impl.MapPoints(inverse, there)
			if !ok || !slices.Equal(back, list) {
				t.Fatalf("%v maps %v to %v, but its inverse to %v, %v", m, list, there, back, ok)
			}
		}
	}
	if min(undone, beyond) < 1000 {
		t.Errorf("only %d lists are mapped and %d are not", undone, beyond)
	}
}

func TestP81P84MappedPoints(t *testing.T) {
	for _, m := range slices.Concat(smallMatrices(2), largeMatrices(), unimodular()) {
		for _, list := range mapLists() {
			want, valid := mappedList(m, list)
			got, ok := impl.MapPoints(m, list)
			if !slices.Equal(got, want) || ok != valid || !ok && got != nil {
				t.Fatalf("MapPoints(%v, %v) = %v, %v, want %v, %v", m, list, got, ok, want, valid)
			}
		}
	}
}

func TestP81P84OrdinaryMappedPoints(t *testing.T) {
	list := []impl.Point{xy(1, 2), xy(0, 0), xy(-3, 4)}
	for _, c := range []struct {
		m    impl.Matrix
		list []impl.Point
		want []impl.Point
	}{
		{mat(2, 1, 1, 1), list, []impl.Point{xy(4, 3), xy(0, 0), xy(-2, 1)}}, {mat(0, -1, 1, 0), list, []impl.Point{xy(-2, 1), xy(0, 0), xy(-4, -3)}},
		{mat(1, 2, 3, 4), list, []impl.Point{xy(5, 11), xy(0, 0), xy(5, 7)}}, {mat(0, 0, 0, 0), list, []impl.Point{xy(0, 0), xy(0, 0), xy(0, 0)}},
		{mat(500, 0, 0, -500), []impl.Point{xy(2, 2)}, []impl.Point{xy(1000, -1000)}}, {mat(500, 1, 0, 1), []impl.Point{xy(2, 1)}, nil},
		{mat(1, 0, 500, 1), []impl.Point{xy(0, 0), xy(2, 1)}, nil}, {mat(-500, -1, 0, 1), []impl.Point{xy(2, 1), xy(0, 0)}, nil}, {mat(1, 0, 1, 1), []impl.Point{xy(-1000, -1)}, nil},
		{mat(1000, 1000, 1000, 1000), []impl.Point{xy(1000, -1000)}, []impl.Point{xy(0, 0)}}, {mat(1000, 1000, 1000, 1000), []impl.Point{xy(1000, 1000)}, nil},
	} {
		if got, ok := impl.MapPoints(c.m, c.list); !slices.Equal(got, c.want) || ok != (c.want != nil) {
			t.Errorf("MapPoints(%v, %v) = %v, %v, want %v", c.m, c.list, got, ok, c.want)
		}
	}
	if got, ok := impl.MapPoints(unit, nil); len(got) != 0 || !ok {
		t.Errorf("MapPoints of nothing = %v, %v", got, ok)
	}
}

func TestP84InvalidLists(t *testing.T) {
	for _, list := range badLists() {
		for _, m := range []impl.Matrix{unit, mat(0, 0, 0, 0), mat(1, 0, 0, 0), mat(0, 0, 0, 1), mat(0, 1, 1, 0)} {
			if got, ok := impl.MapPoints(m, list); got != nil || ok {
				t.Errorf("MapPoints(%v, %v) = %v, %v", m, list, got, ok)
			}
		}
	}
}

func TestP84MappedPointsAreNew(t *testing.T) {
	for _, list := range mapLists() {
		for _, m := range []impl.Matrix{unit, mat(0, 1, 1, 0)} {
			keepsArgument(t, "MapPoints", list, func(list []impl.Point) []impl.Point {
				got, _ := impl.MapPoints(m, list)
				return got
			})
		}
	}
}

// mappedPolygons calls f for polygons and matrices that map them to valid points.
func mappedPolygons(t *testing.T, matrices []impl.Matrix, f func(m impl.Matrix, p []impl.Point, q []impl.Point)) {
	t.Helper()
	count := 0
	polygons := smallPolygons()
	for i, m := range matrices {
		// A fourth of the polygons, others for the next matrix.
		for k := i % 4; k < len(polygons); k += 4 {
			p := polygons[k]
			q, ok := impl.MapPoints(m, p)
			if ok && m.A*m.D != m.B*m.C {
				count++
				f(m, p, q)
			}
		}
	}
	if count < 1000 {
		t.Errorf("only %d polygons are mapped", count)
	}
}

func TestP85MappingScalesAreas(t *testing.T) {
	negative := 0
	matrices := slices.Concat(smallMatrices(1), largeMatrices(), []impl.Matrix{mat(2, 1, 1, 3), mat(1, 3, 2, 1), mat(-2, 5, 7, 3), mat(100, 0, 0, 100), mat(0, 140, 140, 0)})
	mappedPolygons(t, matrices, func(m impl.Matrix, p []impl.Point, q []impl.Point) {
		d := impl.Determinant(m)
		if d < 0 {
			negative++
		}
		if area := impl.DoubleArea(q); area != d*impl.DoubleArea(p) || area != areaOf(q) || area == 0 {
			t.Fatalf("%v maps %v with the area %d to %v with %d", m, p, impl.DoubleArea(p), q, area)
		}
	})
	if negative < 1000 {
		t.Errorf("only %d determinants are negative", negative)
	}
}

func TestP86UnimodularMatricesKeepLattices(t *testing.T) {
	mappedPolygons(t, unimodular(), func(m impl.Matrix, p []impl.Point, q []impl.Point) {
		if n := impl.InteriorCount(q); n != impl.InteriorCount(p) {
			t.Fatalf("%v maps %v with %d points inside to %v with %d", m, p, impl.InteriorCount(p), q, n)
		}
		if n := impl.BoundaryCount(q); n != impl.BoundaryCount(p) {
			t.Fatalf("%v maps %v with %d points on edges to %v with %d", m, p, impl.BoundaryCount(p), q, n)
		}
	})
}

func TestP86MappedInteriorPoints(t *testing.T) {
	count := 0
	mappedPolygons(t, unimodular(), func(m impl.Matrix, p []impl.Point, q []impl.Point) {
		if cellsAround(p) > impl.MaxCells || cellsAround(q) > impl.MaxCells {
			return
		}
		count++
		var want []impl.Point
		for _, v := range impl.LatticeInside(p) {
			want = append(want, mapped(m, v))
		}
		sameList(t, "LatticeInside of a mapped polygon", impl.LatticeInside(q), inOrder(want))
	})
	if count < 1000 {
		t.Errorf("only %d polygons and their images are small enough", count)
	}
}

// cellsAround returns the number of integer points of the smallest rectangle around a polygon.
func cellsAround(p []impl.Point) int {
	var xs, ys []int
	for _, v := range p {
		xs, ys = append(xs, v.X), append(ys, v.Y)
	}
	return (slices.Max(xs) - slices.Min(xs) + 1) * (slices.Max(ys) - slices.Min(ys) + 1)
}

// wantInside returns the result that LatticeInside should have for a simple polygon.
func wantInside(p []impl.Point) []impl.Point {
	if cellsAround(p) > impl.MaxCells {
		return nil
	}
	var inside []impl.Point
	low, high := p[0], p[0]
	for _, v := range p {
		low = xy(min(low.X, v.X), min(low.Y, v.Y))
		high = xy(max(high.X, v.X), max(high.Y, v.Y))
	}
	// One more in each direction.
	for _, q := range grid(high.X-low.X+3, high.Y-low.Y+3, shift(low, xy(-1, -1))) {
		if placeIn(p, q) == 1 {
			inside = append(inside, q)
		}
	}
	return inside
}

// latticePolygons returns simple polygons in both directions: small and large
// ones, those with exactly MaxCells points in their rectangles, and with more.
func latticePolygons() [][]impl.Point {
	list := append(allPolygons(), flatPolygons()...)
	list = append(list, sharpComb())
	for _, size := range latticeSizes() {
		list = append(list, slices.DeleteFunc(frames(size, xy(0, 0)), func(p []impl.Point) bool { return !simple(p) })...)
	}
	r := fixedRandom()
	for range 40 {
		list = append(list, randomPolygon(r, 3+r.IntN(6), 15), randomPolygon(r, impl.MaxVertices, 16))
	}
	for _, p := range slices.Clone(list) {
		list = append(list, reversed(p))
	}
	return list
}

// latticeSizes returns the sizes of rectangles with about MaxCells integer points.
func latticeSizes() []impl.Point {
	return []impl.Point{
		xy(39, 24), xy(24, 39), xy(499, 1), xy(1, 499), xy(99, 9), xy(9, 99), xy(249, 3), xy(19, 49), // exactly 1000
		xy(76, 12), xy(12, 76), xy(90, 10), xy(142, 6), xy(500, 1), xy(1, 500), xy(40, 24), xy(39, 25), // 1001 and more
		xy(36, 26), xy(498, 1), xy(332, 2), xy(2, 332), xy(30, 30), xy(31, 31), xy(332, 2), xy(333, 2), // 999 and others
	}
}

// frames returns a rectangle with a size and a lower left corner, and others in
// it, which are simple unless it is too thin.
func frames(size impl.Point, low impl.Point) [][]impl.Point {
	w, h := size.X, size.Y
	return [][]impl.Point{
		moved([]impl.Point{xy(0, 0), xy(w, 0), xy(w, h), xy(0, h)}, low),
		moved([]impl.Point{xy(0, 0), xy(w, 0), xy(0, h)}, low),
		moved([]impl.Point{xy(0, h), xy(w, 0), xy(w, h)}, low),
		moved([]impl.Point{xy(0, 0), xy(w, h-1), xy(w, h)}, low),
		moved([]impl.Point{xy(0, 0), xy(w, 0), xy(w, h), xy(w-1, 1), xy(0, 1)}, low),
	}
}

func TestP87InteriorPointsAreCounted(t *testing.T) {
	some, none := 0, 0
	for _, p := range latticePolygons() {
		got := impl.LatticeInside(p)
		if want := wantInside(p); !slices.Equal(got, want) {
			t.Fatalf("LatticeInside(%v) = %v, want %v", p, got, want)
		}
		if cellsAround(p) > impl.MaxCells {
			none++
			if got != nil {
				t.Fatalf("LatticeInside(%v) = %v", p, got)
			}
			continue
		}
		if len(got) > 0 {
			some++
		}
		if len(got) != impl.InteriorCount(p) || !ascendingPoints(got) {
			t.Fatalf("LatticeInside(%v) has %d points, InteriorCount is %d", p, len(got), impl.InteriorCount(p))
		}
		for _, q := range got {
			if impl.Locate(p, q) != 1 {
				t.Fatalf("LatticeInside(%v) has %v, but Locate is %d", p, q, impl.Locate(p, q))
			}
		}
	}
	if min(some, none) < 100 {
		t.Errorf("only %d polygons have points inside and %d are too large", some, none)
	}
}

func TestP87TheNumberOfCells(t *testing.T) {
	for _, size := range latticeSizes() {
		for _, low := range []impl.Point{xy(0, 0), xy(-1000, -1000), shift(xy(1000, 1000), xy(-size.X, -size.Y)), xy(-20, 77)} {
			square := frames(size, low)[0]
			want := 0
			if (size.X+1)*(size.Y+1) <= 1000 {
				want = (size.X - 1) * (size.Y - 1)
			}
			if got := impl.LatticeInside(square); len(got) != want {
				t.Errorf("LatticeInside(%v) has %d points, want %d", square, len(got), want)
			}
		}
	}
}

func TestP87OrdinaryPolygons(t *testing.T) {
	for name, c := range map[string]struct{ p, want []impl.Point }{
		"a triangle":       {[]impl.Point{xy(0, 0), xy(3, 0), xy(0, 3)}, []impl.Point{xy(1, 1)}},
		"clockwise":        {[]impl.Point{xy(0, 3), xy(3, 0), xy(0, 0)}, []impl.Point{xy(1, 1)}},
		"nothing inside":   {[]impl.Point{xy(0, 0), xy(1, 0), xy(0, 1)}, nil},
		"a square":         {[]impl.Point{xy(-1, -1), xy(2, -1), xy(2, 2), xy(-1, 2)}, []impl.Point{xy(0, 0), xy(0, 1), xy(1, 0), xy(1, 1)}},
		"a diamond":        {[]impl.Point{xy(-2, 0), xy(0, -2), xy(2, 0), xy(0, 2)}, []impl.Point{xy(-1, 0), xy(0, -1), xy(0, 0), xy(0, 1), xy(1, 0)}},
		"a dent":           {[]impl.Point{xy(0, 0), xy(4, 0), xy(4, 4), xy(2, 1), xy(0, 4)}, []impl.Point{xy(1, 1), xy(1, 2), xy(3, 1), xy(3, 2)}},
		"an L":             {[]impl.Point{xy(0, 0), xy(4, 0), xy(4, 2), xy(2, 2), xy(2, 4), xy(0, 4)}, []impl.Point{xy(1, 1), xy(1, 2), xy(1, 3), xy(2, 1), xy(3, 1)}},
		"a corner at most": {[]impl.Point{xy(1000, 1000), xy(997, 1000), xy(1000, 997)}, []impl.Point{xy(999, 999)}},
		"a thin one":       {[]impl.Point{xy(0, 0), xy(30, 30), xy(29, 30)}, nil},
		"too large":        {[]impl.Point{xy(0, 0), xy(1000, 0), xy(1000, 1000)}, nil},
		"a line inside":    {[]impl.Point{xy(0, 0), xy(499, 0), xy(499, 1), xy(0, 1)}, nil},
	} {
		if got := impl.LatticeInside(c.p); !slices.Equal(got, c.want) {
			t.Errorf("%s: LatticeInside(%v) = %v, want %v", name, c.p, got, c.want)
		}
	}
}

func TestP87PolygonsThatAreNotSimple(t *testing.T) {
	for name, p := range notSimple() {
		if got := impl.LatticeInside(p); got != nil {
			t.Errorf("%s: LatticeInside(%v) = %v", name, p, got)
		}
	}
}

func TestP87InteriorPointsAreNew(t *testing.T) {
	for _, p := range smallPolygons() {
		keepsArgument(t, "LatticeInside", p, impl.LatticeInside)
	}
}
