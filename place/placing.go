package place

import (
	"slices"

	"tourbillon/analysis"
	"tourbillon/api"
)

// placing is a task that is being placed.
type placing struct {
	s          api.System
	plan       [][]api.Piece // of all tasks; that one gets its pieces in it
	task       int
	rest, left int                        // how much of its work is in none of its pieces, and how many ticks are left for that
	good       func(piece api.Piece) bool // whether the plan is good with this piece behind those of the task
	fault      api.Errno                  // what is returned if it can't be placed
}

// begin returns a task of which nothing is placed yet.
func begin(s api.System, plan [][]api.Piece, task int) *placing {
	t := s.Tasks[task]
	p := &placing{s: s, plan: plan, task: task, rest: t.Wcet, left: t.Deadline, fault: api.ErrMiss}
	p.good = func(piece api.Piece) bool {
		before := plan[task]
		plan[task] = append(before, piece)
		_, _, err := analysis.Check(s, plan) // ErrArg, if it is not valid
		plan[task] = before
		p.note(err)
		return err == api.OK
	}
	return p
}

// note keeps an error of Check, if it goes before what was seen of this task so far.
func (p *placing) note(err api.Errno) {
	if err == api.ErrOver || err == api.ErrCap && p.fault == api.ErrMiss {
		p.fault = err
	}
}

// end places all that is left of the task on the first core on which it may be: the whole task, or its last piece; false if there is no such core.
func (p *placing) end() bool {
	for core := range p.s.Cores {
		piece := api.Piece{Core: core, Budget: p.rest, Deadline: p.left}
		if !p.has(core) && p.good(piece) {
			p.add(piece)
			return true
		}
	}
	return false
}

// split places a Tight piece of the task on the first core on which one may be, and takes it off what is left; false if there is no such core.
func (p *placing) split() bool {
	late := p.s.Latency - 1
	// The ticks behind a Tight piece have to be as many as the units behind it; by its Budget, both are fewer.
	if len(p.s.Tasks[p.task].Sections) > 0 || p.left-late < p.rest {
		return false
	}
	for core := range p.s.Cores {
		if p.has(core) {
			continue
		}
		if n := p.budget(core); n > 0 {
			p.add(tight(core, n))
			p.rest -= n
			p.left -= n + late
			return true
		}
	}
	return false
}

// budget returns the Budget that a Tight piece may have on core, as bisection finds it; 0 if it finds none.
func (p *placing) budget(core int) int {
	lowest, highest := 0, p.rest-1
	for lowest < highest {
		n := (lowest + highest + 1) / 2
		if p.good(tight(core, n)) {
			lowest = n
		} else {
			highest = n - 1
		}
	}
	return lowest
}

// has reports whether the task has a piece on core.
func (p *placing) has(core int) bool {
	return slices.ContainsFunc(p.plan[p.task], func(o api.Piece) bool { return o.Core == core })
}

// add adds a piece to those of the task.
func (p *placing) add(piece api.Piece) { p.plan[p.task] = append(p.plan[p.task], piece) }

// tight returns a Tight piece.
func tight(core, budget int) api.Piece {
	return api.Piece{Core: core, Budget: budget, Deadline: budget, Tight: true}
}
