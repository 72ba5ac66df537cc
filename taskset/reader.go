package taskset

import (
	"tourbillon/api"
)

// reader hands out numbers, one by one.
type reader struct{ rest []int }

// next takes the next number; false: there is none left.
func (r *reader) next() (int, bool) {
	if len(r.rest) == 0 {
		return 0, false
	}
	n := r.rest[0]
	r.rest = r.rest[1:]
	return n, true
}

// fill takes a number for each place of l; false: the numbers ended before.
func fill(l []int, next func() (int, bool)) bool {
	for i := range l {
		n, ok := next()
		if !ok {
			return false
		}
		l[i] = n
	}
	return true
}

// readSystem takes all numbers, which are to be those of one system: ErrForm if they are not, ErrLong if there are too many tasks or sections.
func readSystem(next func() (int, bool)) (api.System, api.Errno) {
	var head [systemNumbers]int
	if !fill(head[:], next) || head[0] != version {
		return api.System{}, api.ErrForm
	}
	tasks, err := readTasks(head[systemNumbers-1], next)
	if err != api.OK {
		return api.System{}, err
	}
	if _, left := next(); left {
		return api.System{}, api.ErrForm
	}
	return api.System{
		Cores: head[1], Policy: head[2], Protocol: head[3],
		Release: head[4], Switch: head[5], Finish: head[6],
		Latency:   head[7],
		Resources: head[8],
		Tasks:     tasks,
	}, api.OK
}

// readTasks takes the numbers of that many tasks.
func readTasks(count int, next func() (int, bool)) ([]api.Task, api.Errno) {
	if count > api.MaxTasks {
		return nil, api.ErrLong
	}
	var tasks []api.Task
	for range count {
		t, err := readTask(next)
		if err != api.OK {
			return nil, err
		}
		tasks = append(tasks, t)
	}
	return tasks, api.OK
}

// readTask takes the numbers of a task.
func readTask(next func() (int, bool)) (api.Task, api.Errno) {
	var head [taskNumbers]int
	if !fill(head[:], next) {
		return api.Task{}, api.ErrForm
	}
	sections, err := readSections(head[taskNumbers-1], next)
	if err != api.OK {
		return api.Task{}, err
	}
	return api.Task{Period: head[0], Deadline: head[1], Wcet: head[2], Sections: sections}, api.OK
}

// readSections takes the numbers of that many sections, in a list of its own for each task.
func readSections(count int, next func() (int, bool)) ([]api.Section, api.Errno) {
	if count > api.MaxSections {
		return nil, api.ErrLong
	}
	var sections []api.Section
	for range count {
		var c [sectionNumbers]int
		if !fill(c[:], next) {
			return nil, api.ErrForm
		}
		sections = append(sections, api.Section{At: c[0], Res: c[1], Len: c[2]})
	}
	return sections, api.OK
}
