package analysis

import (
	"cmp"
	"iter"
	"slices"

	"tourbillon/api"
	"tourbillon/terms"
	"tourbillon/valid"
)

// layout is a valid plan, core by core.
type layout struct {
	s     api.System
	parts map[[2]int]part // by core and task, as no task has two pieces on one core; with the Priorities of Rank
	where []int           // of each whole task its core; nowhere for all others
}

// layOut returns the layout of plan; false if it is not a valid plan for s.
func layOut(s api.System, plan [][]api.Piece) (layout, bool) {
	if !valid.Right(s) || len(plan) != len(s.Tasks) {
		return layout{}, false
	}
	l := layout{s, map[[2]int]part{}, slices.Repeat([]int{nowhere}, len(plan))}
	for p := range visit(s, plan) {
		if _, taken := l.parts[p.seat()]; taken || !p.right(s) {
			return layout{}, false
		}
		l.put(p)
	}
	for core := range s.Cores {
		if !l.fits(core) {
			return layout{}, false
		}
		if s.Policy == api.Fixed {
			l.rank(core)
		}
	}
	return l, true
}

// put adds p, whose own Priority does not count.
func (l layout) put(p part) {
	p.Priority = 0
	l.parts[p.seat()] = p
	if p.whole() {
		l.where[p.task] = p.Core
	}
}

// on visits the parts on core, in the order of their tasks.
func (l layout) on(core int) iter.Seq[part] {
	return func(yield func(p part) bool) {
		for task := range l.s.Tasks {
			if p, ok := l.parts[[2]int{core, task}]; ok && !yield(p) {
				return
			}
		}
	}
}

// sections returns the sections of the task of p. If it has some, p is whole, as such a task has no Tight piece.
func (l layout) sections(p part) []api.Section { return l.s.Tasks[p.task].Sections }

// fits reports whether the parts on core may be there together.
func (l layout) fits(core int) bool {
	tight, sharing := 0, 0
	for p := range l.on(core) {
		if p.Tight {
			tight++
		}
		if len(l.sections(p)) > 0 {
			sharing++
		}
	}
	return tight == 0 || tight == 1 && sharing == 0
}

// rank gives the parts on core that are not Tight their Priorities under Fixed.
func (l layout) rank(core int) {
	var order []part
	for p := range l.on(core) {
		if !p.Tight {
			order = append(order, p)
		}
	}
	slices.SortStableFunc(order, func(a, b part) int { return cmp.Compare(a.Deadline, b.Deadline) })
	for i, p := range order {
		p.Priority = i + 1
		l.parts[p.seat()] = p
	}
}

// ceilings returns the ceilings of the resources on core.
func (l layout) ceilings(core int) []int {
	row := make([]int, l.s.Resources)
	for p := range l.on(core) {
		level := max(p.Priority, 1) // under Edf, it is 1 for all
		for _, c := range l.sections(p) {
			if row[c.Res] == 0 || level < row[c.Res] {
				row[c.Res] = level
			}
		}
	}
	return row
}

// own returns what p costs its core.
func (l layout) own(p part) int {
	n := p.Budget + l.s.Finish + 2*l.s.Switch
	if p.whole() {
		n += terms.Extra(l.s, l.where, p.task)
	}
	return n
}
