package analysis

import (
	"slices"

	"tourbillon/api"
	"tourbillon/demand"
	"tourbillon/response"
	"tourbillon/terms"
)

// hold is a section of a task on a core: for how many ticks it may keep the core, the Priority of its task, and the ceiling of its resource there.
type hold struct{ ticks, priority, ceiling int }

// check returns the first error of core; if there is none, it sets the bounds of the tasks that end there.
func (l layout) check(core int, bounds []int) api.Errno {
	if l.s.Policy == api.Edf {
		return l.checkEdf(core, bounds)
	}
	return l.checkFixed(core, bounds)
}

// checkFixed is check under Fixed.
func (l layout) checkFixed(core int, bounds []int) api.Errno {
	parts := slices.Collect(l.on(core))
	all := l.loads(parts)
	holds := l.holds(core)
	for i, p := range parts {
		if p.Tight {
			continue
		}
		block := l.block(p.Priority, holds) + l.helped(p, parts)
		n, err := response.Bound(all[i].Work, block, l.s.Release, above(p, parts, all), all, p.Deadline)
		if err != api.OK {
			return err
		}
		bounds[p.task] = p.before() + n
	}
	return api.OK
}

// checkEdf is check under Edf. A core without parts needs no test, and the test of no elements makes no error.
func (l layout) checkEdf(core int, bounds []int) api.Errno {
	var works []demand.Work
	for p := range l.on(core) {
		t := l.s.Tasks[p.task]
		works = append(works, demand.Work{Work: l.own(p), Period: t.Period, Deadline: p.Deadline, Top: p.Tight})
		if !p.Tight {
			bounds[p.task] = t.Deadline
		}
	}
	// All Priorities are 0, so that all sections count.
	return demand.Test(works, l.block(0, l.holds(core)), l.s.Release)
}

// loads returns what each of parts asks of its core.
func (l layout) loads(parts []part) []response.Load {
	var all []response.Load
	for _, p := range parts {
		all = append(all, response.Load{Work: l.own(p), Period: l.s.Tasks[p.task].Period, Jitter: p.jitter})
	}
	return all
}

// above returns those of all, which are the loads of parts, that go before p.
func above(p part, parts []part, all []response.Load) []response.Load {
	var before []response.Load
	for i, o := range parts {
		if o.Priority < p.Priority {
			before = append(before, all[i])
		}
	}
	return before
}

// holds returns the sections of the tasks on core.
func (l layout) holds(core int) []hold {
	var found []hold
	ceilings := l.ceilings(core)
	for p := range l.on(core) {
		for i, c := range l.sections(p) {
			found = append(found, hold{terms.Hold(l.s, l.where, p.task, i), p.Priority, ceilings[c.Res]})
		}
	}
	return found
}

// block returns for how many ticks what is not before that priority may keep a core, once: by the longest of holds that counts, and by two Switches and two Finishes.
func (l layout) block(priority int, holds []hold) int {
	longest := 0
	for _, h := range holds {
		// Under Mrsp, a section gives way to whatever is before its ceiling.
		if h.priority >= priority && (l.s.Protocol == api.Msrp || h.ceiling <= priority) {
			longest = max(longest, h.ticks)
		}
	}
	return longest + 2*(l.s.Finish+l.s.Switch)
}

// helped returns what the ends of those behind p cost, to which others may help them, as they do under Mrsp.
func (l layout) helped(p part, parts []part) int {
	n := 0
	for _, o := range parts {
		if l.s.Protocol == api.Mrsp && o.Priority > p.Priority && len(l.sections(o)) > 0 {
			n += l.s.Finish
		}
	}
	return n
}
