package tests

import (
	"math"
	"math/big"
	"regexp"
	"strconv"
	"strings"
	"testing"

	"loop.example/planargeometry/impl"
)

// ratio returns a fraction without any check.
func ratio(num int, den int) impl.Rat {
	return impl.Rat{Num: num, Den: den}
}

// smallRats returns the fractions with numerators in -most..most and denominators in 1..most.
func smallRats(most int) []impl.Rat {
	var list []impl.Rat
	for num := -most; num <= most; num++ {
		for den := 1; den <= most; den++ {
			if fromRat(ratio(num, den)).Denom().Int64() == int64(den) {
				list = append(list, ratio(num, den))
			}
		}
	}
	return list
}

// someRats returns small fractions, fractions at the limits, and others.
func someRats() []impl.Rat {
	list := smallRats(5)
	list = append(list,
		ratio(impl.MaxNum, 1), ratio(-impl.MaxNum, 1), ratio(impl.MaxNum-1, 1), ratio(1-impl.MaxNum, 1),
		ratio(1, impl.MaxDen), ratio(-1, impl.MaxDen), ratio(1, impl.MaxDen-1), ratio(-1, impl.MaxDen-1),
		ratio(impl.MaxNum-1, impl.MaxDen), ratio(1-impl.MaxNum, impl.MaxDen),
		ratio(impl.MaxNum, impl.MaxDen-1), ratio(-impl.MaxNum, impl.MaxDen-1),
		ratio(impl.MaxDen, 3), ratio(3, impl.MaxDen), ratio(impl.MaxDen-1, 7), ratio(7, impl.MaxDen-1),
		ratio(50000000000, 1), ratio(-50000000000, 1), ratio(1, 10000000), ratio(1, 4096), ratio(-1, 4883),
	)
	r := fixedRandom()
	for range 40 {
		num, den := r.IntN(2*impl.MaxNum+1)-impl.MaxNum, r.IntN(impl.MaxDen)+1
		n, _ := toRat(exact(num, den))
		list = append(list, n)
	}
	return list
}

// badRats returns fractions that are not valid.
func badRats() []impl.Rat {
	return []impl.Rat{
		{}, ratio(1, 0), ratio(0, 2), ratio(0, -1), ratio(1, -1), ratio(-1, -2), ratio(2, 4), ratio(-6, 3),
		ratio(impl.MaxNum+1, 1), ratio(-impl.MaxNum-1, 1), ratio(1, impl.MaxDen+1), ratio(1, -impl.MaxDen),
		ratio(math.MinInt, 1), ratio(1, math.MinInt), ratio(math.MinInt, math.MinInt), ratio(math.MaxInt, math.MaxInt), ratio(0, math.MaxInt),
	}
}

func TestValidRatHasLimits(t *testing.T) {
	for _, r := range someRats() {
		if !impl.ValidRat(r) {
			t.Errorf("ValidRat(%v) fails", r)
		}
	}
	for _, r := range badRats() {
		if impl.ValidRat(r) {
			t.Errorf("ValidRat(%v) holds", r)
		}
	}
}

// checkRat fails the test unless a result is the wanted number, or no number if it is out of the limits.
func checkRat(t *testing.T, name string, got impl.Rat, ok bool, want *big.Rat) {
	t.Helper()
	if r, valid := toRat(want); got != r || ok != valid {
		t.Fatalf("%s = %v, %v, want %v, %v", name, got, ok, r, valid)
	}
}

func TestP6FractionsAreInLowestTerms(t *testing.T) {
	for num := -30; num <= 30; num++ {
		for den := -30; den <= 30; den++ {
			if den == 0 {
				continue
			}
			r, ok := impl.MakeRat(num, den)
			checkRat(t, "MakeRat", r, ok, exact(num, den))
			if !impl.ValidRat(r) {
				t.Fatalf("MakeRat(%d, %d) = %v is not valid", num, den, r)
			}
			if other, ok := impl.MakeRat(-num, -den); !ok || other != r {
				t.Fatalf("MakeRat(%d, %d) = %v, want %v", -num, -den, other, r)
			}
		}
	}
}

func TestP6MakeRatReducesLargeNumbers(t *testing.T) {
	const limit = impl.MaxNum * impl.MaxDen
	nums := []int{limit, limit - 1, -limit, 1 - limit, limit / 3, impl.MaxNum, impl.MaxNum + 1, 1, 0}
	dens := []int{limit, limit - 1, -limit, 1 - limit, impl.MaxDen, impl.MaxDen + 1, -impl.MaxDen, -impl.MaxDen - 1, 2 * impl.MaxDen, 1, -1}
	for _, num := range nums {
		for _, den := range dens {
			r, ok := impl.MakeRat(num, den)
			checkRat(t, "MakeRat("+strconv.Itoa(num)+", "+strconv.Itoa(den)+")", r, ok, exact(num, den))
		}
	}
}

func TestP6InvalidNumbers(t *testing.T) {
	const limit = impl.MaxNum * impl.MaxDen
	for _, n := range [][2]int{
		{0, 0}, {1, 0}, {-1, 0}, {math.MinInt, 0},
		{limit + 1, limit + 1}, {-limit - 1, limit + 1}, {limit + 2, 2}, {-limit - 2, 2}, {0, limit + 1}, {0, -limit - 1},
		{math.MinInt, math.MinInt}, {math.MinInt, -1}, {math.MaxInt, math.MaxInt}, {math.MaxInt, 1}, {0, math.MinInt},
		{impl.MaxNum + 1, 1}, {-impl.MaxNum - 1, 1}, {impl.MaxNum + 1, -1}, {1, impl.MaxDen + 1}, {1, -impl.MaxDen - 1},
	} {
		if r, ok := impl.MakeRat(n[0], n[1]); ok || r != (impl.Rat{}) {
			t.Errorf("MakeRat(%d, %d) = %v, %v", n[0], n[1], r, ok)
		}
	}
}

func TestP7FractionsAreTotallyOrdered(t *testing.T) {
	for _, a := range someRats() {
		for _, b := range someRats() {
			n := impl.CompareRats(a, b)
			if n != fromRat(a).Cmp(fromRat(b)) {
				t.Fatalf("CompareRats(%v, %v) = %d", a, b, n)
			}
			if impl.CompareRats(b, a) != -n || (n == 0) != (a == b) {
				t.Fatalf("CompareRats(%v, %v) = %d is not antisymmetric, or 0", a, b, n)
			}
		}
	}
}

func TestP8AdditionIsCommutativeAndMonotone(t *testing.T) {
	for _, a := range someRats() {
		for _, b := range someRats() {
			r, ok := impl.AddRats(a, b)
			checkRat(t, "AddRats", r, ok, sum(fromRat(a), fromRat(b)))
			if other, also := impl.AddRats(b, a); other != r || also != ok {
				t.Fatalf("AddRats(%v, %v) = %v, %v, exchanged %v, %v", a, b, r, ok, other, also)
			}
			if ok && b.Num > 0 && impl.CompareRats(r, a) != 1 {
				t.Fatalf("AddRats(%v, %v) = %v is not greater", a, b, r)
			}
		}
	}
}

func TestP8LargeSumsAreReduced(t *testing.T) {
	a := ratio(impl.MaxNum-1, impl.MaxDen)
	if r, ok := impl.AddRats(a, a); !ok || r != ratio(impl.MaxNum-1, impl.MaxDen/2) {
		t.Errorf("AddRats = %v, %v", r, ok)
	}
	if r, ok := impl.AddRats(ratio(impl.MaxNum, 1), ratio(1, 1)); ok || r != (impl.Rat{}) {
		t.Errorf("AddRats beyond MaxNum = %v, %v", r, ok)
	}
	if r, ok := impl.AddRats(ratio(1, impl.MaxDen), ratio(1, 3)); ok || r != (impl.Rat{}) {
		t.Errorf("AddRats beyond MaxDen = %v, %v", r, ok)
	}
}

func TestP9SubtractionInvertsAddition(t *testing.T) {
	sums := 0
	for _, a := range someRats() {
		for _, b := range someRats() {
			r, ok := impl.AddRats(a, b)
			if !ok {
				continue
			}
			sums++
			if back, ok := impl.AddRats(r, ratio(-b.Num, b.Den)); !ok || back != a {
				t.Fatalf("%v + %v - %v = %v, %v", a, b, b, back, ok)
			}
		}
	}
	if sums < 1000 {
		t.Errorf("only %d sums", sums)
	}
}

func TestP10MultiplicationIsCommutative(t *testing.T) {
	for _, a := range someRats() {
		for _, b := range someRats() {
			r, ok := impl.MulRats(a, b)
			checkRat(t, "MulRats", r, ok, product(fromRat(a), fromRat(b)))
			if other, also := impl.MulRats(b, a); other != r || also != ok {
				t.Fatalf("MulRats(%v, %v) = %v, %v, exchanged %v, %v", a, b, r, ok, other, also)
			}
			if ok && fromRat(r).Sign() != fromRat(a).Sign()*fromRat(b).Sign() {
				t.Fatalf("MulRats(%v, %v) = %v has a wrong sign", a, b, r)
			}
		}
	}
}

func TestP10LargeProductsAreReduced(t *testing.T) {
	a, b := ratio(impl.MaxNum-1, impl.MaxDen), ratio(impl.MaxDen, impl.MaxNum/100000-1)
	if r, ok := impl.MulRats(a, b); !ok || fromRat(r).Cmp(product(fromRat(a), fromRat(b))) != 0 {
		t.Errorf("MulRats(%v, %v) = %v, %v", a, b, r, ok)
	}
	if r, ok := impl.MulRats(ratio(impl.MaxNum, 1), ratio(0, 1)); !ok || r != ratio(0, 1) {
		t.Errorf("MulRats with 0 = %v, %v", r, ok)
	}
	if r, ok := impl.MulRats(ratio(impl.MaxNum/2, 1), ratio(-2, 1)); !ok || r != ratio(-impl.MaxNum, 1) {
		t.Errorf("MulRats at -MaxNum = %v, %v", r, ok)
	}
	if r, ok := impl.MulRats(ratio(impl.MaxNum/2+1, 1), ratio(-2, 1)); ok || r != (impl.Rat{}) {
		t.Errorf("MulRats beyond -MaxNum = %v, %v", r, ok)
	}
	// In 64 bits, this product of numerators wraps around to 0.
	if r, ok := impl.MulRats(ratio(1<<32, 1), ratio(1<<32, 1)); ok || r != (impl.Rat{}) {
		t.Errorf("MulRats of 2^32 and 2^32 = %v, %v", r, ok)
	}
}

func TestP11MultiplicationIsDistributive(t *testing.T) {
	for _, a := range smallRats(4) {
		for _, b := range smallRats(4) {
			for _, c := range smallRats(4) {
				added, ok1 := impl.AddRats(b, c)
				left, ok2 := impl.MulRats(a, added)
				ab, ok3 := impl.MulRats(a, b)
				ac, ok4 := impl.MulRats(a, c)
				right, ok5 := impl.AddRats(ab, ac)
				if left != right || !ok1 || !ok2 || !ok3 || !ok4 || !ok5 {
					t.Fatalf("%v * (%v + %v) = %v, but %v", a, b, c, left, right)
				}
			}
		}
	}
}

func TestP12FloorIsLargestIntegerBelow(t *testing.T) {
	for _, r := range append(someRats(), smallRats(12)...) {
		n := impl.FloorRat(r)
		if fromRat(r).Cmp(big1(n)) < 0 || fromRat(r).Cmp(big1(n+1)) >= 0 {
			t.Errorf("FloorRat(%v) = %d", r, n)
		}
	}
}

func TestP135FloorsMoveWithIntegers(t *testing.T) {
	for _, r := range append(someRats(), smallRats(12)...) {
		if next, ok := impl.AddRats(r, ratio(1, 1)); ok && impl.FloorRat(next) != impl.FloorRat(r)+1 {
			t.Errorf("FloorRat(%v) = %d, but FloorRat(%v) = %d", next, impl.FloorRat(next), r, impl.FloorRat(r))
		}
	}
}

func TestP7ToP12InvalidFractions(t *testing.T) {
	good := ratio(1, 2)
	for _, bad := range badRats() {
		if impl.CompareRats(bad, good) != 2 || impl.CompareRats(good, bad) != 2 || impl.CompareRats(bad, bad) != 2 {
			t.Errorf("CompareRats of %v is not 2", bad)
		}
		for _, pair := range [][2]impl.Rat{{bad, good}, {good, bad}, {bad, bad}, {bad, ratio(0, 1)}, {ratio(0, 1), bad}} {
			if r, ok := impl.AddRats(pair[0], pair[1]); ok || r != (impl.Rat{}) {
				t.Errorf("AddRats(%v) = %v, %v", pair, r, ok)
			}
			if r, ok := impl.MulRats(pair[0], pair[1]); ok || r != (impl.Rat{}) {
				t.Errorf("MulRats(%v) = %v, %v", pair, r, ok)
			}
		}
		if impl.FloorRat(bad) != 0 {
			t.Errorf("FloorRat(%v) = %d", bad, impl.FloorRat(bad))
		}
	}
}

func TestP13DecodingAFractionInvertsEncoding(t *testing.T) {
	for _, r := range someRats() {
		text := strconv.Itoa(r.Num)
		if r.Den > 1 {
			text += "/" + strconv.Itoa(r.Den)
		}
		if got := impl.EncodeRat(r); got != text {
			t.Errorf("EncodeRat(%v) = %q", r, got)
		}
		if got, ok := impl.DecodeRat(text); !ok || got != r {
			t.Errorf("DecodeRat(%q) = %v, %v", text, got, ok)
		}
	}
	for _, bad := range badRats() {
		if s := impl.EncodeRat(bad); s != "" {
			t.Errorf("EncodeRat(%v) = %q", bad, s)
		}
	}
}

// canonicalRat reports whether a short string is the text form of a valid fraction.
func canonicalRat(s string) bool {
	m := regexp.MustCompile(`^(0|-?[1-9][0-9]*)(/([1-9][0-9]*))?$`).FindStringSubmatch(s)
	if m == nil {
		return false
	}
	if m[2] == "" {
		return true
	}
	den, _ := strconv.Atoi(m[3])
	num, _ := strconv.Atoi(m[1])
	return den > 1 && exact(num, den).Denom().Int64() == int64(den)
}

func TestP14TextFormOfFractionsIsCanonical(t *testing.T) {
	texts, longest := []string{""}, 5
	for from := 0; len(texts[from]) < longest; from++ {
		for _, c := range "-+/0124 " {
			texts = append(texts, texts[from]+string(c))
		}
	}
	for _, s := range texts {
		r, ok := impl.DecodeRat(s)
		if ok != canonicalRat(s) {
			t.Fatalf("DecodeRat(%q) = %v, %v", s, r, ok)
		}
		if ok && (!impl.ValidRat(r) || impl.EncodeRat(r) != s) {
			t.Fatalf("DecodeRat(%q) = %v, whose text is %q", s, r, impl.EncodeRat(r))
		}
		if !ok && r != (impl.Rat{}) {
			t.Fatalf("DecodeRat(%q) fails with %v", s, r)
		}
	}
}

func TestP14OtherStringsFail(t *testing.T) {
	for _, s := range []string{
		"", "/", "1/", "/2", "+1", "-0", "00", "01", "-01", "1/02", "1/+2", " 1", "1 ", "1 /2", "1/ 2", "1/1", "-3/1", "0/1", "0/5",
		"2/4", "1/0", "1/-2", "-1/-2", "1/2/3", "1//2", "0x1", "1_0", "1e3", "--1", "1.5", "1/2\n", "1/2\x00", "\uff11", "a", "nil",
		"100000000001", "-100000000001", "1/20000001", "99999999999999999999", "1/99999999999999999999", strings.Repeat("1", 5000),
	} {
		if r, ok := impl.DecodeRat(s); ok || r != (impl.Rat{}) {
			t.Errorf("DecodeRat(%q) = %v, %v", s, r, ok)
		}
	}
	for _, s := range []string{"0", "-1", "100000000000", "-100000000000", "1/20000000", "-99999999999/20000000"} {
		if r, ok := impl.DecodeRat(s); !ok || impl.EncodeRat(r) != s {
			t.Errorf("DecodeRat(%q) = %v, %v", s, r, ok)
		}
	}
}
