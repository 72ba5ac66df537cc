package table

import (
	"slices"

	"tourbillon/api"
)

// source returns a function that returns a number less than n, in a fixed order.
func source() func(n int) int {
	state := uint64(1)
	return func(n int) int {
		state = state*6364136223846793005 + 1442695040888963407
		return int((state >> 33) % uint64(n))
	}
}

// drawing draws the parts of a valid table, whether or not it meets its deadlines, and keeps what is on the cores.
type drawing struct {
	number         func(n int) int
	s              api.System
	tight, sharing [api.MaxCores]bool
}

// drawn returns the arguments of Make for a valid table, with numbers of all sizes.
func drawn(number func(n int) int) (api.System, [][]api.Piece, []int) {
	s := api.System{Cores: 1 + number(api.MaxCores), Policy: 1 + number(2), Protocol: api.Msrp, Release: number(51), Switch: number(51), Finish: number(51), Latency: 1 + number(2)*number(50), Resources: number(api.MaxRes + 1)}
	if s.Policy == api.Fixed {
		s.Protocol = 1 + number(2)
	}
	d := &drawing{number: number, s: s}
	var plan [][]api.Piece
	var bounds []int
	for range min(api.MaxTasks, 1+number(2)*number(2)*number(api.MaxTasks)+number(4)) {
		t := d.task()
		pieces := d.pieces(&t)
		d.s.Tasks = append(d.s.Tasks, t)
		plan = append(plan, pieces)
		bounds = append(bounds, []int{1, t.Deadline, 1 + number(min(t.Deadline, 1<<31))}[number(3)])
	}
	return d.s, plan, bounds
}

// task draws one; about half of them have sections, if there are resources.
func (d *drawing) task() api.Task {
	period := (1 + d.number(1<<31-1)) << 9 >> d.number(39)
	period = max(1, min(period, api.MaxTime))
	deadline := period - d.number(2)*d.number(1+min(period/2, 1<<31))
	t := api.Task{Period: period, Deadline: deadline, Wcet: max(1, deadline/(1+d.number(9)))}
	if d.s.Resources > 0 && d.number(2) == 0 {
		end := 0
		for range d.number(api.MaxSections + 1) {
			at := end + d.number(3)
			if at < t.Wcet {
				end = at + 1 + d.number(min(3, t.Wcet-at))
				t.Sections = append(t.Sections, api.Section{At: at, Res: d.number(d.s.Resources), Len: end - at})
			}
		}
	}
	return t
}

// pieces draws those of t. Where a task with sections may be on no core, t loses them.
func (d *drawing) pieces(t *api.Task) []api.Piece {
	core := d.number(d.s.Cores)
	if d.tight[core] {
		t.Sections = nil
	}
	if len(t.Sections) > 0 {
		d.sharing[core] = true
	} else if l := d.split(*t); len(l) > 1 && d.number(3) > 0 {
		for _, p := range l {
			d.tight[p.Core] = d.tight[p.Core] || p.Tight
		}
		return l
	}
	return []api.Piece{{Core: core, Budget: t.Wcet, Deadline: t.Deadline}}
}

// split draws Tight pieces, as many as there is room for at most, and a last one.
func (d *drawing) split(t api.Task) []api.Piece {
	var l []api.Piece
	rest, left := t.Wcet, t.Deadline
	free := slices.Repeat([]bool{true}, d.s.Cores)
	for range d.number(api.MaxPieces) {
		core := d.number(d.s.Cores)
		if !free[core] || d.tight[core] || d.sharing[core] || rest < 2 {
			continue
		}
		n := 1 + d.number(min(rest-1, 1<<31))
		if left-n-d.s.Latency+1 < 1 {
			continue
		}
		l = append(l, api.Piece{Core: core, Budget: n, Deadline: n, Tight: true})
		rest, left, free[core] = rest-n, left-n-d.s.Latency+1, false
	}
	core := slices.Index(free, true)
	if core < 0 {
		return nil
	}
	return append(l, api.Piece{Core: core, Budget: rest, Deadline: left})
}
