package impl

import (
	"cmp"
	"strconv"
	"strings"
)

// Limits of fractions.
const (
	MaxNum = 100000000000
	MaxDen = 20000000
)

// Rat is a fraction in lowest terms.
type Rat struct {
	Num int
	Den int
}

// ValidRat reports whether a fraction is valid.
func ValidRat(r Rat) bool {
	return within(r.Num, MaxNum) && 1 <= r.Den && r.Den <= MaxDen && gcd(r.Num, r.Den) == 1
}

// lowestTerms returns num/den with a positive denominator, for any den but 0.
// The result may exceed the limits.
func lowestTerms(num int, den int) Rat {
	divisor := gcd(num, den) * sign(den)
	return Rat{num / divisor, den / divisor}
}

// whole returns an integer as a fraction.
func whole(n int) Rat {
	return Rat{n, 1}
}

// checked returns a fraction and true, or the zero Rat and false if it is invalid.
func (r Rat) checked() (Rat, bool) {
	if !ValidRat(r) {
		return Rat{}, false
	}
	return r, true
}

// plus returns the sum of valid fractions, and whether it is valid.
// Both products are at most MaxNum*MaxDen, so their sum fits into an int.
func (r Rat) plus(s Rat) (Rat, bool) {
	return lowestTerms(r.Num*s.Den+s.Num*r.Den, r.Den*s.Den).checked()
}

// times returns the product of valid fractions, and whether it is valid.
func (r Rat) times(s Rat) (Rat, bool) {
	// The product of the numerators may overflow, so each of them is reduced
	// by the other denominator first; what remains is in lowest terms.
	left := lowestTerms(r.Num, s.Den)
	right := lowestTerms(s.Num, r.Den)
	if left.Num != 0 && !within(right.Num, MaxNum/max(left.Num, -left.Num)) {
		return Rat{}, false
	}
	return Rat{left.Num * right.Num, left.Den * right.Den}.checked()
}

// MakeRat returns a fraction in lowest terms.
func MakeRat(num int, den int) (Rat, bool) {
	const limit = MaxNum * MaxDen
	if den == 0 || !within(num, limit) || !within(den, limit) {
		return Rat{}, false
	}
	return lowestTerms(num, den).checked()
}

// CompareRats compares two fractions.
func CompareRats(a Rat, b Rat) int {
	if !ValidRat(a) || !ValidRat(b) {
		return 2
	}
	return cmp.Compare(a.Num*b.Den, b.Num*a.Den)
}

// AddRats returns the sum of two fractions.
func AddRats(a Rat, b Rat) (Rat, bool) {
	if !ValidRat(a) || !ValidRat(b) {
		return Rat{}, false
	}
	return a.plus(b)
}

// MulRats returns the product of two fractions.
func MulRats(a Rat, b Rat) (Rat, bool) {
	if !ValidRat(a) || !ValidRat(b) {
		return Rat{}, false
	}
	return a.times(b)
}

// FloorRat returns the largest integer that is at most a fraction.
func FloorRat(r Rat) int {
	if !ValidRat(r) {
		return 0
	}
	floor := r.Num / r.Den
	if r.Num%r.Den < 0 { // division rounds toward 0, which is upward here
		floor--
	}
	return floor
}

// EncodeRat returns the text form of a fraction.
func EncodeRat(r Rat) string {
	if !ValidRat(r) {
		return ""
	}
	text := strconv.Itoa(r.Num)
	if r.Den != 1 {
		text += "/" + strconv.Itoa(r.Den)
	}
	return text
}

// DecodeRat inverts EncodeRat.
func DecodeRat(s string) (Rat, bool) {
	top, bottom, split := strings.Cut(s, "/")
	if !split {
		bottom = "1"
	}
	num, topErr := strconv.Atoi(top)
	den, bottomErr := strconv.Atoi(bottom)
	r := Rat{num, den}
	// Atoi reads more forms of a number than EncodeRat writes, and the
	// fraction may be invalid: only the form that EncodeRat writes counts.
	if topErr != nil || bottomErr != nil || EncodeRat(r) != s {
		return Rat{}, false
	}
	return r, true
}
