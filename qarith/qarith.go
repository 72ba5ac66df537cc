// Package qarith is layer 1: arithmetic with numbers of 64 bits that detects overflow, and exact comparisons of fractions. See shared/doc/01-qarith.md.
package qarith

import (
	"tourbillon/api"
)

// greatest is the greatest number of 64 bits, 2^63 - 1.
const greatest = 1<<63 - 1

// whole is a load of one: loads are counted in parts of 2^32.
const whole = 1 << 32

// Add returns a + b; ErrOver if that is no number of 64 bits.
func Add(a, b int) (int, api.Errno) {
	sum := a + b
	// The sum lies below a just if b is negative, unless it has wrapped round.
	if (sum < a) != (b < 0) {
		return 0, api.ErrOver
	}
	return sum, api.OK
}

// Sub returns a - b; ErrOver if that is no number of 64 bits.
func Sub(a, b int) (int, api.Errno) {
	difference := a - b
	// The difference lies above a just if b is negative, unless it has wrapped round.
	if (difference > a) != (b < 0) {
		return 0, api.ErrOver
	}
	return difference, api.OK
}

// Mul returns a * b; ErrOver if that is no number of 64 bits.
func Mul(a, b int) (int, api.Errno) {
	product := multiply(size(a), size(b))
	negative := (a < 0) != (b < 0)
	limit := uint64(greatest)
	if negative {
		limit++ // below nought there is one number more
	}
	if product.high() != 0 || product.low() > limit {
		return 0, api.ErrOver
	}
	if negative {
		return int(-product.low()), api.OK
	}
	return int(product.low()), api.OK
}

// CeilDiv returns a / b, rounded up; ErrArg if a is negative or b is not positive.
func CeilDiv(a, b int) (int, api.Errno) {
	if a < 0 || b <= 0 {
		return 0, api.ErrArg
	}
	quotient := a / b
	if a%b != 0 {
		quotient++ // b is at least 2 here, so the quotient is far below the greatest number
	}
	return quotient, api.OK
}

// MulDiv returns a * b / c, rounded down, or up if up is set; ErrArg if a or b is negative or c is not positive, ErrOver if the result is greater than 2^63 - 1.
func MulDiv(a, b, c int, up bool) (int, api.Errno) {
	if a < 0 || b < 0 || c <= 0 {
		return 0, api.ErrArg
	}
	quotient, rest, fits := divide(multiply(uint64(a), uint64(b)), uint64(c))
	if !fits || quotient > greatest {
		return 0, api.ErrOver
	}
	if up && rest != 0 {
		return Add(int(quotient), 1)
	}
	return int(quotient), api.OK
}

// Gcd returns the greatest common divisor of a and b, 0 for 0 and 0; ErrArg if one of them is negative.
func Gcd(a, b int) (int, api.Errno) {
	if a < 0 || b < 0 {
		return 0, api.ErrArg
	}
	for b != 0 {
		a, b = b, a%b
	}
	return a, api.OK
}

// Lcm returns the least common multiple of a and b, 0 if one of them is 0; ErrArg if one of them is negative, ErrOver if the result is no number of 64 bits.
func Lcm(a, b int) (int, api.Errno) {
	divisor, err := Gcd(a, b)
	if err != api.OK {
		return 0, err
	}
	if divisor == 0 {
		return 0, api.OK
	}
	return Mul(a/divisor, b)
}

// Cmp returns -1, 0 or 1 if a / b is less than, equal to or greater than c / d; ErrArg if b or d is not positive, or a or c is negative.
func Cmp(a, b, c, d int) (int, api.Errno) {
	if a < 0 || b <= 0 || c < 0 || d <= 0 {
		return 0, api.ErrArg
	}
	left := multiply(uint64(a), uint64(d))
	right := multiply(uint64(c), uint64(b))
	return compare(left, right), api.OK
}

// Load returns the sum of all work * 2^32 / time, each term rounded up; ErrArg if the lists differ in length, a work is negative or a time is not positive, ErrOver if a term or the sum is greater than 2^63 - 1.
func Load(work, time []int) (int, api.Errno) {
	if !isLoad(work, time) {
		return 0, api.ErrArg
	}
	sum := 0
	for i := range work {
		term, err := MulDiv(work[i], whole, time[i], true)
		if err != api.OK {
			return 0, err
		}
		sum, err = Add(sum, term)
		if err != api.OK {
			return 0, err
		}
	}
	return sum, api.OK
}

// isLoad looks at all elements before any of them is reckoned with: a wrong one at the end comes before an overflow at the beginning.
func isLoad(work, time []int) bool {
	if len(work) != len(time) {
		return false
	}
	for i := range work {
		if work[i] < 0 || time[i] <= 0 {
			return false
		}
	}
	return true
}
