// Package fix is layer 1, saturating fixed-point numbers with 32 fractional bits: see shared/doc/01-fix.md.
package fix

import "math/bits"

// F is a number with 32 fractional bits: the integer divided by 2^32.
type F int64

// One is the number 1; Max and Min are the greatest and the least number.
const (
	One F = 1 << 32
	Max F = 1<<63 - 1
	Min F = -1 << 63
)

// fraction is the number of fractional bits.
const fraction = 32

// limit is the magnitude of Min, the greatest one that any number has.
const limit uint64 = 1 << 63

// Int returns n as a number, saturated.
func Int(n int) F {
	if n > int(Max>>fraction) {
		return Max
	}
	if n < int(Min>>fraction) {
		return Min
	}
	return F(n) << fraction
}

// Ratio returns a divided by b, rounded and saturated; if b is 0, it returns Max or Min by the sign of a, and 0 for 0.
func Ratio(a, b int) F {
	// The common denominator 2^32 of two numbers cancels out in their quotient.
	return F(a).Div(F(b))
}

// Add returns the sum, saturated.
func (x F) Add(y F) F {
	if y > 0 && x > Max-y {
		return Max
	}
	if y < 0 && x < Min-y {
		return Min
	}
	return x + y
}

// Sub returns the difference, saturated.
func (x F) Sub(y F) F {
	// Not x.Add(y.Neg()): the negative of Min is saturated.
	if y > 0 && x < Min+y {
		return Min
	}
	if y < 0 && x > Max+y {
		return Max
	}
	return x - y
}

// Mul returns the product, rounded and saturated.
func (x F) Mul(y F) F {
	return signed((x < 0) != (y < 0), product(magnitude(x), magnitude(y)))
}

// Div returns x divided by y, rounded and saturated; if y is 0, it returns Max or Min by the sign of x, and 0 for 0.
func (x F) Div(y F) F {
	if x == 0 {
		return 0
	}
	return signed((x < 0) != (y < 0), quotient(magnitude(x), magnitude(y)))
}

// Neg returns the number with the opposite sign, saturated.
func (x F) Neg() F {
	return F(0).Sub(x)
}

// Abs returns the absolute value, saturated.
func (x F) Abs() F {
	if x < 0 {
		return x.Neg()
	}
	return x
}

// Floor returns the greatest integer that is not above the number.
func (x F) Floor() int {
	// A shift of a negative integer rounds down, where a division would round towards 0.
	return int(x >> fraction)
}

// Sum returns the sum of the elements, saturated after each addition.
func Sum(l ...F) F {
	var sum F
	for _, x := range l {
		sum = sum.Add(x)
	}
	return sum
}

// Dot returns the sum of the products of the elements at the same index, as long as both lists have one.
func Dot(a, b []F) F {
	var sum F
	for i := 0; i < len(a) && i < len(b); i++ {
		sum = sum.Add(a[i].Mul(b[i]))
	}
	return sum
}

// Clamp returns x within the bounds; if low is above high, high is compared first.
func Clamp(x, low, high F) F {
	if x > high {
		return high
	}
	if x < low {
		return low
	}
	return x
}

// magnitude returns the absolute value of the integer, which uint64 can hold for Min as well.
func magnitude(x F) uint64 {
	if x < 0 {
		return -uint64(x)
	}
	return uint64(x)
}

// signed returns the number with a sign and a magnitude, saturated.
func signed(negative bool, m uint64) F {
	switch {
	case m < limit && negative:
		return -F(m)
	case m < limit:
		return F(m)
	case negative:
		return Min
	}
	return Max
}

// product returns the magnitude of a product, rounded; at least limit if it is too great.
func product(a, b uint64) uint64 {
	high, low := bits.Mul64(a, b)
	if high>>fraction != 0 {
		return limit
	}
	const unit = 1 << fraction
	return rounded(high<<(64-fraction)|low>>fraction, low%unit, unit)
}

// quotient returns the magnitude of a quotient, rounded; at least limit if it is too great, or if b is 0.
func quotient(a, b uint64) uint64 {
	high, low := a>>(64-fraction), a<<fraction
	if high >= b { // bits.Div64 would panic
		return limit
	}
	whole, rest := bits.Div64(high, low, b)
	return rounded(whole, rest, b)
}

// rounded returns whole and rest/unit together, rounded; whole itself if it is at least limit.
func rounded(whole, rest, unit uint64) uint64 {
	// Twice the rest may overflow, so it is compared with what is missing to the unit.
	missing := unit - rest
	up := rest > missing || rest == missing && whole%2 == 1
	if up && whole < limit { // beyond it whole+1 may overflow
		return whole + 1
	}
	return whole
}
