package script

import (
	"iter"

	"tourbillon/api"
)

// releases visits the releases of x, in their order: all of them, also where x is not valid and an earlier one may come behind.
func releases(x api.Script) iter.Seq[api.Release] {
	return func(yield func(r api.Release) bool) {
		for _, r := range x.Releases {
			if !yield(r) {
				return
			}
		}
	}
}

// rightReleases reports whether the releases of x are those of tasks of s, and none is ahead of the one before it.
func rightReleases(s api.System, x api.Script) bool {
	earliest := 0
	for r := range releases(x) {
		if r.At < earliest || !within(r.Task, 0, len(s.Tasks)-1) || !within(r.Demand, 1, api.MaxTime) {
			return false
		}
		earliest = r.At
	}
	return true
}

// keepsTasks reports whether the releases of x, which is valid for s, ask each task for its Wcet at most, and are its Period apart. It is enough to hold each one against the last of its task, as none comes ahead of that.
func keepsTasks(s api.System, x api.Script) bool {
	last := make(map[int]api.Release)
	for r := range releases(x) {
		t := s.Tasks[r.Task]
		before, again := last[r.Task]
		if r.Demand > t.Wcet || again && r.At-before.At < t.Period {
			return false
		}
		last[r.Task] = r
	}
	return true
}

// keepsLatency reports whether interrupts take as long in x as they may in s.
func keepsLatency(s api.System, x api.Script) bool {
	for _, n := range x.Latencies {
		if !within(n, 1, s.Latency) {
			return false
		}
	}
	return true
}
