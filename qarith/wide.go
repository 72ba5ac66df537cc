package qarith

// wide is a number of 128 bits without a sign: four halves of 32 bits, the least one first.
type wide [4]uint32

// high returns the upper 64 bits of w.
func (w wide) high() uint64 { return join(w[3], w[2]) }

// low returns the lower 64 bits of w.
func (w wide) low() uint64 { return join(w[1], w[0]) }

// split returns the halves of a, the least one first.
func split(a uint64) [2]uint32 { return [2]uint32{uint32(a), uint32(a >> 32)} }

// join returns the number of two halves.
func join(upper, lower uint32) uint64 { return uint64(upper)<<32 | uint64(lower) }

// size returns a without its sign. Of the least number it is 2^63, which an int can't hold.
func size(a int) uint64 {
	if a < 0 {
		return -uint64(a)
	}
	return uint64(a)
}

// multiply returns a * b.
func multiply(a, b uint64) wide {
	var product wide
	for i, x := range split(a) {
		carry := uint32(0)
		for j, y := range split(b) {
			// At most (2^32 - 1)^2 + 2 * (2^32 - 1) = 2^64 - 1: this never wraps round.
			sum := uint64(x)*uint64(y) + uint64(product[i+j]) + uint64(carry)
			product[i+j] = uint32(sum)
			carry = uint32(sum >> 32)
		}
		product[i+2] = carry
	}
	return product
}

// divide returns w / c, rounded down, and what is left over; not fits: the quotient is not below 2^64. c is from 1 to 2^63 - 1, so that twice a rest, plus one, is below 2^64.
func divide(w wide, c uint64) (quotient, rest uint64, fits bool) {
	rest = w.high()
	if rest >= c {
		return 0, 0, false
	}
	next := w.low()
	for range 64 {
		rest = rest<<1 | next>>63
		next <<= 1
		quotient <<= 1
		if rest >= c {
			rest -= c
			quotient |= 1
		}
	}
	return quotient, rest, true
}

// compare returns -1, 0 or 1 if a is less than, equal to or greater than b.
func compare(a, b wide) int {
	for i := len(a) - 1; i >= 0; i-- {
		if a[i] < b[i] {
			return -1
		}
		if a[i] > b[i] {
			return 1
		}
	}
	return 0
}
