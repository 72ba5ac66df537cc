package demand

import (
	"tourbillon/api"
	"tourbillon/qarith"
)

// maxWorks is how many elements a load has at most.
const maxWorks = 3 * api.MaxTasks

// whole is all that a core can do, as qarith.Load counts it.
const whole = 1 << 32

// never is behind every Deadline.
const never = api.MaxTime + 1

// load is what a core is asked to do: works again and again, block once, release with each arrival.
type load struct {
	works          []Work
	block, release int
}

// shares are parts of a core's time: so much work in so much time each.
type shares struct{ work, time []int }

// right reports whether c is valid.
func (c load) right() bool {
	if len(c.works) > maxWorks || !inside(0, c.block) || !inside(0, c.release) {
		return false
	}
	return fold(c.works, true, func(ok bool, w Work) bool {
		return ok && inside(0, w.Work) && inside(1, w.Period) && inside(1, w.Deadline)
	})
}

// inside reports whether n is from least to MaxTime.
func inside(least, n int) bool { return n >= least && n <= api.MaxTime }

// firstDeadline returns the smallest Deadline of the elements without Top; never if there are none.
func (c load) firstDeadline() int {
	return fold(c.works, never, func(first int, w Work) int {
		if w.Top {
			return first
		}
		return min(first, w.Deadline)
	})
}

// tooGreat reports whether more arrives in the long run than a core can do.
func (c load) tooGreat() bool {
	s := fold(c.works, shares{}, func(s shares, w Work) shares {
		return shares{append(s.work, w.Work, c.release), append(s.time, w.Period, w.Period)}
	})
	sum, err := qarith.Load(s.work, s.time)
	return err != api.OK || sum > whole
}

// busy returns the smallest number of ticks within which all that may arrive in them can be done.
func (c load) busy() (int, api.Errno) {
	if c.tooGreat() {
		return 0, api.ErrMiss
	}
	n := 1
	for range api.MaxSteps {
		sum, err := c.arriving(n)
		if err != api.OK {
			return 0, err
		}
		if sum <= n {
			return n, api.OK
		}
		n = sum
	}
	return 0, api.ErrCap
}

// descend goes from t down to the first deadline, and leaves out those numbers of ticks of which it is known that the demand within them is not greater.
func (c load) descend(t, first int) api.Errno {
	for range api.MaxSteps {
		if t < first {
			return api.OK
		}
		asked, err := c.demand(t)
		switch {
		case err != api.OK:
			return err
		case asked > t:
			return api.ErrMiss
		case asked < t:
			t = asked // what is asked within fewer ticks than t is not greater
		default:
			t--
		}
	}
	return api.ErrCap
}

// arriving returns what may arrive within n ticks.
func (c load) arriving(n int) (int, api.Errno) {
	return c.sum(n, func(s total, w Work) total {
		return s.plus(w.Work, arrivals(n, w.Period), 1)
	})
}

// demand returns what has to be done within t ticks.
func (c load) demand(t int) (int, api.Errno) {
	return c.sum(t, func(s total, w Work) total {
		switch {
		case w.Top:
			return s.plus(w.Work, arrivals(t, w.Period), 1)
		case w.Deadline <= t:
			return s.plus(w.Work, (t-w.Deadline)/w.Period, 1)
		}
		return s
	})
}

// sum returns block, what add adds for each element, and release for each of its arrivals within n ticks.
func (c load) sum(n int, add func(s total, w Work) total) (int, api.Errno) {
	s := fold(c.works, total{n: c.block}, func(s total, w Work) total {
		return add(s, w).plus(c.release, arrivals(n, w.Period), 2)
	})
	return s.n, s.err
}

// arrivals returns n / period, rounded up.
func arrivals(n, period int) int {
	count, _ := qarith.CeilDiv(n, period) // which is an error only of numbers that no caller here has
	return count
}
