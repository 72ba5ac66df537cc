package analysis

import (
	"iter"

	"tourbillon/api"
)

// part is a piece of a plan, with its place there.
type part struct {
	api.Piece
	task   int  // whose piece it is
	at     int  // how many pieces of the task are before it
	last   bool // whether none is behind it
	done   int  // the Budgets of those before it
	jitter int  // by how much it may be late: Late for each of those before it
}

// visit visits the pieces of plan, task by task, and those of a task in the order of their execution. A Budget is added only when the next piece is visited, so that whoever stops at a wrong one has seen no sum that overflows.
func visit(s api.System, plan [][]api.Piece) iter.Seq[part] {
	late := s.Latency - 1
	return func(yield func(p part) bool) {
		for task, list := range plan {
			done := 0
			for at, p := range list {
				if !yield(part{p, task, at, at == len(list)-1, done, at * late}) {
					return
				}
				done += p.Budget
			}
		}
	}
}

// seat returns the core and the task of p.
func (p part) seat() [2]int { return [2]int{p.Core, p.task} }

// whole reports whether p is the only piece of its task, and not Tight.
func (p part) whole() bool { return p.at == 0 && p.last && !p.Tight }

// before returns how long behind the arrival of a job p begins at most.
func (p part) before() int { return p.done + p.jitter }

// right reports whether p may be where it is, as far as its own task is concerned, whose pieces before it are right.
func (p part) right(s api.System) bool {
	t := s.Tasks[p.task]
	rest := t.Wcet - p.done
	if p.at >= api.MaxPieces || p.Core < 0 || p.Core >= s.Cores || p.Budget < 1 {
		return false
	}
	if p.Tight {
		// Some work is left: for the pieces behind it, or because the task is open.
		return p.Budget < rest && p.Deadline == p.Budget && len(t.Sections) == 0
	}
	return p.last && p.Budget == rest && p.Deadline == t.Deadline-p.before() && p.Deadline >= 1
}
