package taskset

import (
	"tourbillon/api"
)

// version is the first number of every system.
const version = 1

// How many numbers of a system stand ahead of its tasks, and of a task ahead of its sections (the last of them says how many of these follow); and how many a section has.
const (
	systemNumbers  = 10
	taskNumbers    = 4
	sectionNumbers = 3
)

// systemHead returns the numbers of s ahead of its tasks, with how many tasks there are.
func systemHead(s api.System) [systemNumbers]int {
	return [systemNumbers]int{
		version,
		s.Cores, s.Policy, s.Protocol,
		s.Release, s.Switch, s.Finish,
		s.Latency,
		s.Resources,
		len(s.Tasks),
	}
}

// taskHead returns the numbers of t ahead of its sections, with how many sections there are.
func taskHead(t api.Task) [taskNumbers]int {
	return [taskNumbers]int{t.Period, t.Deadline, t.Wcet, len(t.Sections)}
}

// tooLong reports whether s has more tasks, or one of them more sections, than may be encoded.
func tooLong(s api.System) bool {
	if len(s.Tasks) > api.MaxTasks {
		return true
	}
	for _, t := range s.Tasks {
		if len(t.Sections) > api.MaxSections {
			return true
		}
	}
	return false
}

// numbers returns the numbers of s.
func numbers(s api.System) []int {
	var l []int
	for _, n := range systemHead(s) {
		l = append(l, n)
	}
	for _, t := range s.Tasks {
		for _, n := range taskHead(t) {
			l = append(l, n)
		}
		for _, c := range t.Sections {
			l = append(l, c.At, c.Res, c.Len)
		}
	}
	return l
}
