package tests

import (
	"fmt"
	"math/big"
	"regexp"
	"slices"
	"strings"
	"testing"

	"loop.example/planargeometry/impl"
)

// integerText and fractionText match the text forms of integers and of
// fractions, whatever their size.
var (
	integerText  = regexp.MustCompile(`^(?:0|-?[1-9][0-9]*)$`)
	fractionText = regexp.MustCompile(`^(0|-?[1-9][0-9]*)(?:/([1-9][0-9]*))?$`)
)

// pointsText returns the text form of points, whether they are valid or not.
func pointsText(list []impl.Point) string {
	var texts []string
	for _, p := range list {
		texts = append(texts, fmt.Sprintf("%d %d", p.X, p.Y))
	}
	return strings.Join(texts, ",")
}

// ratPointText returns the text form of a valid point with fractions.
func ratPointText(p impl.RatPoint) string {
	var texts []string
	for _, r := range []impl.Rat{p.X, p.Y} {
		text := fmt.Sprintf("%d", r.Num)
		if r.Den > 1 {
			text += fmt.Sprintf("/%d", r.Den)
		}
		texts = append(texts, text)
	}
	return strings.Join(texts, " ")
}

// readInteger returns the integer in -most..most that a text of digits has.
func readInteger(s string, most int64) (int, bool) {
	n, ok := new(big.Int).SetString(s, 10)
	if !ok || n.CmpAbs(big.NewInt(most)) > 0 {
		return 0, false
	}
	return int(n.Int64()), true
}

// wantPoint returns the point of a text form.
func wantPoint(s string) (impl.Point, bool) {
	parts := strings.Split(s, " ")
	if len(parts) != 2 || !integerText.MatchString(parts[0]) || !integerText.MatchString(parts[1]) {
		return impl.Point{}, false
	}
	x, okX := readInteger(parts[0], 1000)
	y, okY := readInteger(parts[1], 1000)
	return xy(x, y), okX && okY
}

// wantPoints returns the results that DecodePoints should have.
func wantPoints(s string) ([]impl.Point, bool) {
	parts := strings.Split(s, ",")
	if len(parts) > 20 {
		return nil, false
	}
	var list []impl.Point
	for _, part := range parts {
		p, ok := wantPoint(part)
		if !ok {
			return nil, false
		}
		list = append(list, p)
	}
	return list, true
}

// wantRat returns the fraction of a text form.
func wantRat(s string) (impl.Rat, bool) {
	m := fractionText.FindStringSubmatch(s)
	if m == nil || m[2] == "1" {
		return impl.Rat{}, false
	}
	num, ok := readInteger(m[1], 100000000000)
	if !ok || m[2] == "" {
		return ratio(num, 1), ok
	}
	den, ok := readInteger(m[2], 20000000)
	return ratio(num, den), ok && coprime(num, den)
}

// wantRatPoint returns the results that DecodeRatPoint should have.
func wantRatPoint(s string) (impl.RatPoint, bool) {
	parts := strings.Split(s, " ")
	if len(parts) != 2 {
		return impl.RatPoint{}, false
	}
	x, okX := wantRat(parts[0])
	y, okY := wantRat(parts[1])
	if !okX || !okY {
		return impl.RatPoint{}, false
	}
	return ratPoint(x, y), true
}

// checkPoints fails the test unless DecodePoints has the right results for a
// text, and reports whether it succeeds.
func checkPoints(t *testing.T, s string) bool {
	t.Helper()
	got, ok := impl.DecodePoints(s)
	want, valid := wantPoints(s)
	if ok != valid || !slices.Equal(got, want) || !ok && got != nil {
		t.Fatalf("DecodePoints(%q) = %v, %v, want %v, %v", s, got, ok, want, valid)
	}
	if ok && impl.EncodePoints(got) != s {
		t.Fatalf("DecodePoints(%q) = %v, whose text is %q", s, got, impl.EncodePoints(got))
	}
	return ok
}

// checkRatPoint fails the test unless DecodeRatPoint has the right results for
// a text, and reports whether it succeeds.
func checkRatPoint(t *testing.T, s string) bool {
	t.Helper()
	got, ok := impl.DecodeRatPoint(s)
	want, valid := wantRatPoint(s)
	if ok != valid || got != want {
		t.Fatalf("DecodeRatPoint(%q) = %v, %v, want %v, %v", s, got, ok, want, valid)
	}
	if ok && impl.EncodeRatPoint(got) != s {
		t.Fatalf("DecodeRatPoint(%q) = %v, whose text is %q", s, got, impl.EncodeRatPoint(got))
	}
	return ok
}

// shortTexts calls f for all texts of some characters up to a length.
func shortTexts(characters string, longest int, f func(s string)) {
	var extend func(text []byte)
	extend = func(text []byte) {
		f(string(text))
		if len(text) < longest {
			for _, c := range []byte(characters) {
				extend(append(text, c))
			}
		}
	}
	extend(nil)
}

// changedTexts calls f for all texts that differ from one by a byte: one more,
// one less, or another one.
func changedTexts(s string, f func(s string)) {
	for i := range len(s) + 1 {
		for c := range 256 {
			more := s[:i] + string([]byte{byte(c)})
			f(more + s[i:])
			if i < len(s) {
				f(more + s[i+1:])
			}
		}
		if i < len(s) {
			f(s[:i] + s[i+1:])
		}
	}
}

// textLists returns lists of points that have a text form.
func textLists() [][]impl.Point {
	lists := append(someLists(), allPolygons()...)
	corner := []impl.Point{xy(-1000, -1000)}
	for _, n := range []int{1, 2, 19, 20} {
		lists = append(lists, slices.Repeat(corner, n), manyPoints(n))
	}
	for n := -1000; n <= 1000; n++ {
		lists = append(lists, []impl.Point{xy(n, -n)}, []impl.Point{xy(0, n), xy(-n, 1)})
	}
	return slices.DeleteFunc(lists, func(list []impl.Point) bool { return len(list) == 0 })
}

func TestP122DecodingPointsInvertsEncoding(t *testing.T) {
	for _, list := range textLists() {
		var text string
		keepsPoints(t, "EncodePoints", list, func(list []impl.Point) { text = impl.EncodePoints(list) })
		if want := pointsText(list); text != want {
			t.Fatalf("EncodePoints(%v) = %q, want %q", list, text, want)
		}
		if got, ok := impl.DecodePoints(text); !ok || !slices.Equal(got, list) {
			t.Fatalf("DecodePoints(%q) = %v, %v, want %v", text, got, ok, list)
		}
	}
}

func TestP122OrdinaryPoints(t *testing.T) {
	for text, list := range map[string][]impl.Point{
		"0 0":                   {xy(0, 0)},
		"7 -12":                 {xy(7, -12)},
		"-7 12":                 {xy(-7, 12)},
		"1 -2,30 4":             {xy(1, -2), xy(30, 4)},
		"30 4,1 -2":             {xy(30, 4), xy(1, -2)},
		"5 5,5 5,5 5":           {xy(5, 5), xy(5, 5), xy(5, 5)},
		"0 0,-1 -1,-2 -2,-3 -3": {xy(0, 0), xy(-1, -1), xy(-2, -2), xy(-3, -3)},
		"1000 -1000,-1000 1000": {xy(1000, -1000), xy(-1000, 1000)},
		"999 100,-999 -10":      {xy(999, 100), xy(-999, -10)},
	} {
		if got := impl.EncodePoints(list); got != text {
			t.Errorf("EncodePoints(%v) = %q, want %q", list, got, text)
		}
		if got, ok := impl.DecodePoints(text); !ok || !slices.Equal(got, list) {
			t.Errorf("DecodePoints(%q) = %v, %v, want %v", text, got, ok, list)
		}
	}
}

func TestP122EmptyAndInvalidListsHaveNoText(t *testing.T) {
	for _, list := range append(badLists(), nil, []impl.Point{}) {
		if s := impl.EncodePoints(list); s != "" {
			t.Errorf("EncodePoints(%v) = %q", list, s)
		}
	}
}

func TestP122P123NumberOfPoints(t *testing.T) {
	for _, n := range []int{0, 1, 2, 3, 10, 18, 19, 20, 21, 22, 25, 30, 31, 40, 41, 60, 1000} {
		valid := 1 <= n && n <= 20
		list := slices.Repeat([]impl.Point{xy(-3, 7)}, n)
		text := pointsText(list)
		if got := impl.EncodePoints(list); valid && got != text || !valid && got != "" {
			t.Errorf("EncodePoints of %d points = %q", n, got)
		}
		got, ok := impl.DecodePoints(text)
		if ok != valid || valid && !slices.Equal(got, list) || !valid && got != nil {
			t.Errorf("DecodePoints of %d points = %v, %v", n, got, ok)
		}
	}
}

func TestP122DecodedPointsAreNewMemory(t *testing.T) {
	const text = "1 2,3 4,5 6"
	want := []impl.Point{xy(1, 2), xy(3, 4), xy(5, 6)}
	first, _ := impl.DecodePoints(text)
	second, _ := impl.DecodePoints(text)
	for i := range first {
		first[i] = xy(9, 9)
	}
	sameList(t, "the second result", second, want)
	third, _ := impl.DecodePoints(text)
	sameList(t, "the third result", third, want)
}

func TestP123AllShortTexts(t *testing.T) {
	count := 0
	shortTexts("-01 ,", 8, func(s string) {
		if checkPoints(t, s) {
			count++
		}
	})
	shortTexts("+-/0129 ,", 5, func(s string) { checkPoints(t, s) })
	if count < 300 {
		t.Errorf("only %d texts have points", count)
	}
}

func TestP123ChangedTexts(t *testing.T) {
	count := 0
	for _, s := range []string{
		"0 0", "1 -2", "-10 20", "-1000 1000", "1 2,3 4", "0 0,0 0", "-1 -2,-3 -4", "999 -100,1000 -1000", "5 6,7 8,-9 0", "0 0,4 0,4 4,2 1,0 4",
		pointsText(manyPoints(19)), pointsText(manyPoints(20)), pointsText(slices.Repeat([]impl.Point{xy(-1000, -1000)}, 20)),
	} {
		if !checkPoints(t, s) {
			t.Errorf("DecodePoints(%q) fails", s)
		}
		changedTexts(s, func(s string) {
			if checkPoints(t, s) {
				count++
			}
		})
	}
	if count < 1000 {
		t.Errorf("only %d texts have points", count)
	}
}

// badNumbers returns texts that are no text form of a coordinate.
func badNumbers() []string {
	return []string{
		"", " ", "-", "+", "--1", "+1", "+0", "-0", "00", "01", "-01", "007", "-007", "1-", "1+", "0x1", "0b1", "0o7", "1_0", "1e2", "1.0", ".5", "a", "nil", "1a", "1\x00", "1\n", "1\t", "1\r",
		"1/1", "1/2", "2/2", "-3/1", "0/1", "1/", "/1", "1001", "-1001", "1000.0", "01000", "10000", "100000000000", "\u00b9", "\uff11", "\u2212" + "1", "\u0661",
		"2147483648", "-2147483649", "4294967296", "4294967297", "9223372036854775807", "-9223372036854775808", "9223372036854775808", "18446744073709551615", "18446744073709551616",
		"18446744073709551617", "-18446744073709551615", "340282366920938463463374607431768211457", "1" + strings.Repeat("0", 400), strings.Repeat("9", 5000), strings.Repeat("0", 5000) + "1",
	}
}

func TestP123BadNumbersFail(t *testing.T) {
	for _, n := range badNumbers() {
		for _, s := range []string{n + " 1", "1 " + n, n + " " + n, n + " 1,2 2", "1 " + n + ",2 2", "2 2," + n + " 1", "2 2,1 " + n, "2 2,1 " + n + ",3 3"} {
			if list, ok := impl.DecodePoints(s); ok || list != nil {
				t.Errorf("DecodePoints(%q) = %v, %v", s, list, ok)
			}
		}
	}
}

func TestP123OtherStringsFail(t *testing.T) {
	for _, s := range []string{
		"", " ", ",", "  ", ",,", "1", "-1", "1 ", " 1", "1 2 ", " 1 2", "1  2", "1 2 3", "1 2 3 4", "1,2", "1,2,3,4", "1\t2", "1\n2", "1\u00a02", "12",
		"1 2,", ",1 2", "1 2,,3 4", "1 2, 3 4", "1 2 ,3 4", "1 2,3", "1,2 3", "1 2,3 4,", ",1 2,3 4", "1 2,3 4 5", "1 2 3,4 5", "1 2;3 4", "1 2 3 4", "1 2\n3 4", "1 2,3  4",
		"(1 2)", "[1 2]", "{1 2}", "\"1 2\"", "1 2.", "1 2\n", "1 2\r\n", "\n1 2", "1 2\x00", "\x001 2", "\ufeff1 2", "x", "points 1 2", "1 -", "- 1", "-", "1 - 2", "1 -2 ,", "1- 2", "1001 0", "0 1001", "-1001 0", "0 -1001",
		pointsText(manyPoints(21)), pointsText(manyPoints(20)) + ",", "," + pointsText(manyPoints(20)), pointsText(manyPoints(20)) + ",x",
	} {
		if list, ok := impl.DecodePoints(s); ok || list != nil {
			t.Errorf("DecodePoints(%q) = %v, %v", s, list, ok)
		}
		checkPoints(t, s)
	}
}

func TestP123P125LongTextsFail(t *testing.T) {
	for _, part := range []string{",", " ", "1 1,", "1 ", "1", "-", "0", "/", "1/"} {
		s := strings.Repeat(part, 3000000)
		for _, s := range []string{s, "1 " + s, s + " 1", "1 1," + s + "1 1"} {
			if list, ok := impl.DecodePoints(s); ok || list != nil {
				t.Errorf("DecodePoints accepts many times %q", part)
			}
			if p, ok := impl.DecodeRatPoint(s); ok || p != (impl.RatPoint{}) {
				t.Errorf("DecodeRatPoint accepts many times %q", part)
			}
		}
	}
}

func TestP124DecodingPointsWithFractionsInvertsEncoding(t *testing.T) {
	for _, x := range someRats() {
		for _, y := range someRats() {
			p := ratPoint(x, y)
			text := impl.EncodeRatPoint(p)
			if want := ratPointText(p); text != want {
				t.Fatalf("EncodeRatPoint(%v) = %q, want %q", p, text, want)
			}
			if got, ok := impl.DecodeRatPoint(text); !ok || got != p {
				t.Fatalf("DecodeRatPoint(%q) = %v, %v, want %v", text, got, ok, p)
			}
		}
	}
}

func TestP124OrdinaryPointsWithFractions(t *testing.T) {
	for text, p := range map[string]impl.RatPoint{
		"0 0":                        wholePoint(0, 0),
		"1/2 -3":                     ratPoint(ratio(1, 2), ratio(-3, 1)),
		"-3 1/2":                     ratPoint(ratio(-3, 1), ratio(1, 2)),
		"-7/3 -22/7":                 ratPoint(ratio(-7, 3), ratio(-22, 7)),
		"1001 -1001":                 wholePoint(1001, -1001),
		"100000000000 -100000000000": wholePoint(100000000000, -100000000000),
		"1/20000000 -1/20000000":     ratPoint(ratio(1, 20000000), ratio(-1, 20000000)),
		"99999999999/20000000 0":     ratPoint(ratio(99999999999, 20000000), ratio(0, 1)),
	} {
		if got := impl.EncodeRatPoint(p); got != text {
			t.Errorf("EncodeRatPoint(%v) = %q, want %q", p, got, text)
		}
		if got, ok := impl.DecodeRatPoint(text); !ok || got != p {
			t.Errorf("DecodeRatPoint(%q) = %v, %v, want %v", text, got, ok, p)
		}
	}
}

func TestP124InvalidFractionsHaveNoText(t *testing.T) {
	for _, bad := range badRats() {
		for _, p := range []impl.RatPoint{ratPoint(bad, ratio(1, 2)), ratPoint(ratio(1, 2), bad), ratPoint(bad, bad), ratPoint(bad, ratio(0, 1)), ratPoint(ratio(0, 1), bad)} {
			if s := impl.EncodeRatPoint(p); s != "" {
				t.Errorf("EncodeRatPoint(%v) = %q", p, s)
			}
		}
	}
}

func TestP125AllShortTexts(t *testing.T) {
	count := 0
	shortTexts("-/012 ", 7, func(s string) {
		if checkRatPoint(t, s) {
			count++
		}
	})
	if count < 500 {
		t.Errorf("only %d texts have a point", count)
	}
}

func TestP125ChangedTexts(t *testing.T) {
	count := 0
	for _, s := range []string{
		"0 0", "1/2 -3", "-3 1/2", "-7/3 -22/7", "100000000000 -100000000000", "99999999999/20000000 1/20000000", "-99999999999/19999999 -1/20000000", "1000 -1000", "6/35 35/6",
	} {
		if !checkRatPoint(t, s) {
			t.Errorf("DecodeRatPoint(%q) fails", s)
		}
		changedTexts(s, func(s string) {
			if checkRatPoint(t, s) {
				count++
			}
		})
	}
	if count < 500 {
		t.Errorf("only %d texts have a point", count)
	}
}

// badFractions returns texts that are no text form of a fraction.
func badFractions() []string {
	list := []string{
		"2/4", "-2/4", "0/2", "0/1", "1/1", "-3/1", "6/3", "1/0", "0/0", "1/-2", "-1/-2", "1/+2", "1/02", "01/2", "+1/2", "-0/2", "1//2", "1/2/3", "1/ 2", "1 /2", "/2", "1/", "/",
		"100000000001", "-100000000001", "1/20000001", "-1/20000001", "1/40000000", "100000000001/2", "1/18446744073709551618", "18446744073709551617/2", "1/" + strings.Repeat("9", 5000), strings.Repeat("9", 5000) + "/2",
	}
	for _, n := range badNumbers() {
		if _, ok := wantRat(n); !ok {
			list = append(list, n)
		}
	}
	return list
}

func TestP125BadFractionsFail(t *testing.T) {
	for _, n := range badFractions() {
		for _, s := range []string{n + " 1", "1 " + n, n + " " + n, n + " 1/2", "-1/2 " + n} {
			if p, ok := impl.DecodeRatPoint(s); ok || p != (impl.RatPoint{}) {
				t.Errorf("DecodeRatPoint(%q) = %v, %v", s, p, ok)
			}
		}
	}
}

func TestP125OtherStringsFail(t *testing.T) {
	for _, s := range []string{
		"", " ", "  ", "1", "1/2", "1 ", " 1", "1/2 ", " 1/2", "1/2  3", " 1/2 3", "1/2 3 ", "1/2 3 4", "1 2 3", "1,2", "1 2,3 4", "1 2,", ",1 2", "1/2,3", "1/2\t3", "1/2\n3", "1/2/3", "1/2/3 4", "1 2/", "1/ 2", "/1 2",
		"(1 2)", "1 2\n", "1 2\x00", "1 2.", "1/2 3/4 5/6", "1/2 3/", "-/2 1", "1 -/2", "1 -", "- 1",
	} {
		if p, ok := impl.DecodeRatPoint(s); ok || p != (impl.RatPoint{}) {
			t.Errorf("DecodeRatPoint(%q) = %v, %v", s, p, ok)
		}
		checkRatPoint(t, s)
	}
}
