package place

import (
	"math/big"
	"reflect"
	"slices"
	"testing"

	"tourbillon/analysis"
	"tourbillon/api"
	"tourbillon/valid"
)

// rival is the chapter in other words: each plan that is tried is made anew, and all that Check returned is kept.
type rival struct {
	s    api.System
	plan [][]api.Piece // of the tasks that are placed
	seen []api.Errno   // what Check returned for the task that is being placed
}

func part(t api.Task) *big.Rat { return big.NewRat(int64(t.Wcet), int64(t.Period)) }

// order takes the first of the greatest parts that are left, again and again.
func (v *rival) order() ([]int, api.Errno) {
	if !valid.Right(v.s) {
		return nil, api.ErrArg
	}
	var order []int
	for range v.s.Tasks {
		best := -1
		for task, t := range v.s.Tasks {
			if !slices.Contains(order, task) && (best < 0 || part(t).Cmp(part(v.s.Tasks[best])) > 0) {
				best = task
			}
		}
		order = append(order, best)
	}
	return order, api.OK
}

// outcome is what Place returns.
type outcome struct {
	plan   [][]api.Piece
	bounds []int
	err    api.Errno
}

func (o outcome) equal(p outcome) bool {
	return slices.EqualFunc(o.plan, p.plan, slices.Equal[[]api.Piece]) && slices.Equal(o.bounds, p.bounds) && o.err == p.err
}

// pieces returns how many there are of the task that has most.
func (o outcome) pieces() int {
	n := 0
	for _, l := range o.plan {
		n = max(n, len(l))
	}
	return n
}

func placed(s api.System) outcome {
	plan, bounds, err := Place(s)
	return outcome{plan, bounds, err}
}

func (v *rival) place() outcome {
	order, err := v.order()
	if err != api.OK {
		return outcome{err: err}
	}
	v.plan = make([][]api.Piece, len(order))
	for _, task := range order {
		v.seen = nil
		v.plan[task] = v.complete(task, nil)
		switch {
		case len(v.plan[task]) > 0:
		case slices.Contains(v.seen, api.ErrOver):
			return outcome{err: api.ErrOver}
		case slices.Contains(v.seen, api.ErrCap):
			return outcome{err: api.ErrCap}
		default:
			return outcome{err: api.ErrMiss}
		}
	}
	ranked, _ := analysis.Rank(v.s, v.plan)
	bounds, _, err := analysis.Check(v.s, v.plan)
	return outcome{ranked, bounds, err}
}

// complete returns pieces with those that have to follow them; none if the task can't be placed.
func (v *rival) complete(task int, pieces []api.Piece) []api.Piece {
	t := v.s.Tasks[task]
	late := v.s.Latency - 1
	rest, left := t.Wcet, t.Deadline
	var free []int
	for core := range v.s.Cores {
		free = append(free, core)
	}
	for _, p := range pieces {
		rest -= p.Budget
		left -= p.Budget + late
		free = slices.DeleteFunc(free, func(core int) bool { return core == p.Core })
	}
	for _, core := range free {
		if more := with(pieces, last(core, rest, left)); v.good(task, more) {
			return more
		}
	}
	for _, core := range free {
		suits := func(n int) bool {
			return left-n-late >= rest-n && v.good(task, with(pieces, early(core, n)))
		}
		if len(t.Sections) > 0 {
			break
		}
		if n := search(0, rest-1, suits); n > 0 {
			return v.complete(task, with(pieces, early(core, n)))
		}
	}
	return nil
}

// search bisects the numbers from lowest to highest.
func search(lowest, highest int, suits func(n int) bool) int {
	if lowest >= highest {
		return lowest
	}
	half := highest - (highest-lowest)/2
	if suits(half) {
		return search(half, highest, suits)
	}
	return search(lowest, half-1, suits)
}

func with(pieces []api.Piece, p api.Piece) []api.Piece { return append(slices.Clone(pieces), p) }

func (v *rival) good(task int, pieces []api.Piece) bool {
	plan := copied(v.plan)
	plan[task] = pieces
	if !analysis.Right(v.s, plan) {
		return false
	}
	_, _, err := analysis.Check(v.s, plan)
	v.seen = append(v.seen, err)
	return err == api.OK
}

// spelt holds what the calls answer about a system against the rival, and against P18.3; it returns what Place answered.
func spelt(t *testing.T, s api.System) outcome {
	t.Helper()
	v := &rival{s: s}
	order, err := Order(s)
	if want, fault := v.order(); !slices.Equal(order, want) || err != fault {
		t.Fatalf("Order(%v) = %v, %d, want %v, %d", s, order, err, want, fault)
	}
	got := placed(s)
	if want := v.place(); !got.equal(want) {
		t.Fatalf("Place(%v) = %v, want %v", s, got, want)
	}
	if got.err == api.OK {
		promised(t, s, got)
	}
	return got
}

// promised holds a plan that Place returned against P18.3, and against what is said of it in P18.2.
func promised(t *testing.T, s api.System, got outcome) {
	t.Helper()
	if !analysis.Right(s, got.plan) {
		t.Fatalf("Place(%v) = %v, which is not valid", s, got)
	}
	for task, l := range got.plan {
		if len(l) == 0 || l[len(l)-1].Tight {
			t.Fatalf("Place(%v) = %v: task %d is not placed, or open", s, got, task)
		}
	}
	bounds, _, err := analysis.Check(s, got.plan)
	ranked, _ := analysis.Rank(s, got.plan)
	if want := (outcome{ranked, bounds, err}); !got.equal(want) {
		t.Fatalf("Place(%v) = %v, want the Priorities and bounds of %v", s, got, want)
	}
}

// copied returns a plan that shares nothing with plan.
func copied(plan [][]api.Piece) [][]api.Piece {
	plan = slices.Clone(plan)
	for i := range plan {
		plan[i] = slices.Clone(plan[i])
	}
	return plan
}

// plain returns a copy of s that shares nothing with s.
func plain(s api.System) api.System {
	s.Tasks = slices.Clone(s.Tasks)
	for i := range s.Tasks {
		s.Tasks[i].Sections = slices.Clone(s.Tasks[i].Sections)
	}
	return s
}

func deeplyEqual(s, u api.System) bool { return reflect.DeepEqual(s, u) }
