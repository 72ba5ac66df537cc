package demand

import (
	"tourbillon/api"
	"tourbillon/qarith"
)

// fold combines the elements of l, one after the other, with what those before them came to, which is v at first.
func fold[E, V any](l []E, v V, combine func(v V, e E) V) V {
	for _, e := range l {
		v = combine(v, e)
	}
	return v
}

// total is a sum, or the error of the first number that was too great for it.
type total struct {
	n   int
	err api.Errno
}

// plus returns the total of s and amount * (count + more).
func (s total) plus(amount, count, more int) total {
	if s.err != api.OK {
		return s
	}
	product := 0
	factor, err := qarith.Add(count, more)
	if err != api.OK {
		goto failed
	}
	product, err = qarith.Mul(amount, factor)
	if err != api.OK {
		goto failed
	}
	s.n, err = qarith.Add(s.n, product)
	if err != api.OK {
		goto failed
	}
	return s
failed:
	return total{err: err}
}
