package response

import (
	"iter"

	"tourbillon/api"
	"tourbillon/qarith"
)

// maxLoads is how many elements a list has at most.
const maxLoads = 3 * api.MaxTasks

// greatest is the greatest work, and the greatest number of ticks for which it is asked.
const greatest = 1 << 62

// job is a job's own work, and all that its core may have to do beside it.
type job struct {
	own, block, release int
	above, all          []Load
}

// right reports whether j is valid.
func (j job) right() bool {
	if !inside(0, j.own) || !inside(0, j.block) || !inside(0, j.release) {
		return false
	}
	if len(j.above) > maxLoads || len(j.all) > maxLoads {
		return false
	}
	for l := range j.loads() {
		if !l.right() {
			return false
		}
	}
	return true
}

// right reports whether l is valid.
func (l Load) right() bool {
	return inside(0, l.Work) && inside(1, l.Period) && inside(0, l.Jitter)
}

// inside reports whether n is from least to MaxTime.
func inside(least, n int) bool { return n >= least && n <= api.MaxTime }

// loads visits the elements of above, then those of all.
func (j job) loads() iter.Seq[Load] {
	return func(yield func(l Load) bool) {
		for _, list := range [2][]Load{j.above, j.all} {
			for _, l := range list {
				if !yield(l) {
					return
				}
			}
		}
	}
}

// requests visits what may be requested within n ticks: so much work, so many times.
func (j job) requests(n int) iter.Seq2[int, int] {
	return func(yield func(work, times int) bool) {
		if !yield(j.own, 1) || !yield(j.block, 1) {
			return
		}
		for _, l := range j.above {
			if !yield(l.Work, l.arrivals(n)) {
				return
			}
		}
		for _, l := range j.all {
			if !yield(j.release, l.arrivals(n)+1) {
				return
			}
		}
	}
}

// arrivals returns how often l may arrive within n ticks.
func (l Load) arrivals(n int) int {
	count, _ := qarith.CeilDiv(n+l.Jitter, l.Period) // which is an error only of numbers that no valid l has
	return count
}

// within returns the sum of what may be requested within n ticks.
func (j job) within(n int) (int, api.Errno) {
	sum := 0
	for work, times := range j.requests(n) {
		product, err := qarith.Mul(work, times)
		if err != api.OK || product > greatest-sum {
			return 0, api.ErrOver
		}
		sum += product
	}
	return sum, api.OK
}
