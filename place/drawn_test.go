package place

import (
	"tourbillon/api"
)

// source returns a function that returns a number less than n, in a fixed order.
func source() func(n int) int {
	state := uint64(1)
	return func(n int) int {
		state = state*6364136223846793005 + 1442695040888963407
		return int(state >> 33 % uint64(n))
	}
}

// drawnSmall returns a valid system of small numbers, which often just fits on its cores, or just does not.
func drawnSmall(number func(n int) int) api.System {
	cost := func() int { return number(2) * number(2) }
	s := api.System{Cores: 1 + number(4), Policy: 1 + number(2), Protocol: api.Msrp, Release: cost(), Switch: cost(), Finish: cost(), Latency: 1 + number(2)*number(5), Resources: 1 + number(2)}
	if s.Policy == api.Fixed {
		s.Protocol = 1 + number(2)
	}
	tasks := 2 + number(6)
	for range tasks {
		period := 8 << number(3)
		period += number(2) * number(period)
		deadline := period - number(2)*number(period/3)
		part := 4 + number(18)
		wcet := deadline * s.Cores * part / (tasks * 16)
		s.Tasks = append(s.Tasks, api.Task{Period: period, Deadline: deadline, Wcet: max(1, min(wcet, deadline))})
	}
	if number(3) == 0 {
		share(number, s)
	}
	return s
}

// share gives some of the tasks of s sections.
func share(number func(n int) int, s api.System) {
	for i := range s.Tasks {
		t := &s.Tasks[i]
		end := 0
		for range number(2) * number(api.MaxSections) {
			at := end + number(3)
			if at < t.Wcet {
				end = at + 1 + number(min(3, t.Wcet-at))
				t.Sections = append(t.Sections, api.Section{At: at, Res: number(s.Resources), Len: end - at})
			}
		}
	}
}

// drawn returns a valid system of numbers of all sizes, with as many cores and tasks as there may be.
func drawn(number func(n int) int) api.System {
	s := api.System{Cores: 1 + number(api.MaxCores), Policy: 1 + number(2), Protocol: api.Msrp, Release: number(51), Switch: number(51), Finish: number(51), Latency: 1 + number(50), Resources: number(api.MaxRes + 1)}
	if number(2) == 0 {
		s.Release, s.Switch, s.Finish = number(2), number(2), number(2)
	}
	if s.Policy == api.Fixed {
		s.Protocol = 1 + number(2)
	}
	tasks := 1 + number(api.MaxTasks)
	size := 15 + number(25)
	for range tasks {
		period := 1 + number(1<<31-1)<<9>>(39-size)>>number(10)
		deadline := period - number(2)*number(1+period/2)
		wcet := deadline / tasks * s.Cores / 64 * (30 + number(50))
		s.Tasks = append(s.Tasks, api.Task{Period: period, Deadline: deadline, Wcet: max(1, min(wcet, deadline))})
	}
	if s.Resources > 0 && number(3) == 0 {
		share(number, s)
	}
	return s
}

// drawnToSplit returns a valid system of some more tasks than cores, each of which leaves too little room on a core for another one.
func drawnToSplit(number func(n int) int) api.System {
	s := api.System{Cores: 2 + number(7), Policy: 1 + number(2), Protocol: api.Msrp, Release: number(2) * number(2), Switch: number(2) * number(2), Finish: number(2), Latency: 1 + number(2)*number(4), Resources: 1}
	size := 1 << number(33)
	for range s.Cores + 1 + number(3) {
		period := (15 + number(3)*number(10)) * size
		deadline := period - number(2)*number(period/8)
		wcet := period/2 + number(period/5)
		s.Tasks = append(s.Tasks, api.Task{Period: period, Deadline: deadline, Wcet: min(wcet, deadline)})
	}
	for range number(3) {
		period := (20 + number(30)) * size
		deadline := period / (1 + number(3))
		s.Tasks = append(s.Tasks, api.Task{Period: period, Deadline: deadline, Wcet: 1 + number(deadline)/2})
	}
	if number(4) == 0 {
		t := &s.Tasks[number(len(s.Tasks))]
		t.Sections = []api.Section{{At: t.Wcet / 2, Len: 1}}
	}
	return s
}
