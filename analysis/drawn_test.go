package analysis

import (
	"slices"

	"tourbillon/api"
)

// source returns a function that returns a number less than n, in a fixed order.
func source() func(n int) int {
	state := uint64(1)
	return func(n int) int {
		state = state*6364136223846793005 + 1442695040888963407
		return int(state >> 33 % uint64(n))
	}
}

// planner draws pieces, and keeps what is on the cores.
type planner struct {
	number         func(n int) int
	s              api.System
	tight, sharing [api.MaxCores]bool
}

// whole returns a list of a whole piece on any core on which it may be; an empty one if there is none.
func (p *planner) whole(t api.Task) []api.Piece {
	first := p.number(p.s.Cores)
	for i := range p.s.Cores {
		core := (first + i) % p.s.Cores
		if len(t.Sections) == 0 || !p.tight[core] {
			p.sharing[core] = p.sharing[core] || len(t.Sections) > 0
			return []api.Piece{last(core, t.Wcet, t.Deadline)}
		}
	}
	return nil
}

// split returns a list of some Tight pieces, and a last one behind them unless the task is to be open.
func (p *planner) split(t api.Task, open bool) []api.Piece {
	var list []api.Piece
	rest, left := t.Wcet, t.Deadline
	used := [api.MaxCores]bool{}
	first := p.number(p.s.Cores)
	for i := range p.s.Cores {
		core := (first + i) % p.s.Cores
		more := len(list) == 0 || p.number(2) == 0
		if more && !p.tight[core] && !p.sharing[core] && rest > 1 && left-rest-p.s.Latency > 0 {
			n := 1 + p.number(rest-1)
			list = append(list, tight(core, n))
			rest, left = rest-n, left-n-p.s.Latency+1
			used[core], p.tight[core] = true, true
		}
	}
	end := slices.Index(used[:p.s.Cores], false)
	if len(list) == 0 || open || end < 0 {
		return list
	}
	return append(list, last(end, rest, left))
}

// drawnPlan returns a valid plan for s; so many of a hundred tasks are split, and no task is open unless it may be.
func drawnPlan(number func(n int) int, s api.System, splits int, open bool) [][]api.Piece {
	p := &planner{number: number, s: s}
	plan := make([][]api.Piece, len(s.Tasks))
	for task, t := range s.Tasks {
		if len(t.Sections) == 0 && number(100) < splits {
			plan[task] = p.split(t, open && number(3) == 0)
		}
	}
	for task, t := range s.Tasks {
		n := len(plan[task])
		isOpen := n > 0 && plan[task][n-1].Tight
		if isOpen && !open {
			plan[task] = nil
		}
		if n == 0 && number(12) > 0 {
			plan[task] = p.whole(t)
		}
	}
	for task := range plan {
		for i := range plan[task] {
			plan[task][i].Priority = number(5) - 2
		}
	}
	return plan
}

// drawnSmall returns a valid system of small numbers and a valid plan without open tasks.
func drawnSmall(number func(n int) int) (api.System, [][]api.Piece) {
	cost := func() int { return number(2) * number(3) }
	s := api.System{Cores: 1 + number(3), Policy: 1 + number(2), Protocol: api.Msrp, Release: cost(), Switch: cost(), Finish: cost(), Latency: 1 + number(2)*number(5), Resources: 1 + number(2)}
	if s.Policy == api.Fixed {
		s.Protocol = 1 + number(2)
	}
	shared := number(2)
	for range 2 + number(5) {
		period := 10 + number(60+100*shared)
		deadline := period - number(2)*number(period/2)
		s.Tasks = append(s.Tasks, api.Task{Period: period, Deadline: deadline, Wcet: 1 + number(deadline/(3+3*shared)+1)})
	}
	if shared == 1 {
		share(number, s)
	}
	return s, drawnPlan(number, s, 30*number(3), false)
}

// share gives some of the tasks of s sections.
func share(number func(n int) int, s api.System) {
	for i := range s.Tasks {
		t := &s.Tasks[i]
		end := 0
		for range number(api.MaxSections) {
			at := end + number(3)
			if at < t.Wcet {
				end = at + 1 + number(min(3, t.Wcet-at))
				t.Sections = append(t.Sections, api.Section{At: at, Res: number(s.Resources), Len: end - at})
			}
		}
	}
}

// drawn returns a valid system of numbers of all sizes, with as many cores and tasks as there may be, and a valid plan.
func drawn(number func(n int) int) (api.System, [][]api.Piece) {
	s := api.System{Cores: 1 + number(api.MaxCores), Policy: 1 + number(2), Protocol: api.Msrp, Release: number(51), Switch: number(51), Finish: number(51), Latency: 1 + number(50), Resources: number(api.MaxRes + 1)}
	if number(2) == 0 {
		s.Release, s.Switch, s.Finish = number(2), number(2), number(2)
	}
	if s.Policy == api.Fixed {
		s.Protocol = 1 + number(2)
	}
	spare := 1 << number(7)
	for range 1 + number(api.MaxTasks) {
		period := 1 + number(1<<31-1)<<9>>number(38)
		deadline := period - number(2)*number(period)*number(2)
		s.Tasks = append(s.Tasks, api.Task{Period: period, Deadline: deadline, Wcet: 1 + number(1+(deadline-1)/spare)})
	}
	if s.Resources > 0 && number(3) > 0 {
		share(number, s)
	}
	return s, drawnPlan(number, s, 20*number(4), true)
}
