package terms

import (
	"tourbillon/api"
)

// none is the core of a task that has none.
const none = -1

// spot is where sections stand in each other's way: those with a resource, on a core.
type spot struct{ core, res int }

// longest holds the greatest Len of the sections of each spot that has any.
type longest map[spot]int

// longestOf returns the longest sections of the tasks that have a core.
func longestOf(s api.System, where []int) longest {
	found := make(longest)
	for task, t := range s.Tasks {
		core := coreOf(s, where, task)
		if core == none {
			// A spot without a core would answer for arguments that are no core.
			continue
		}
		for _, c := range t.Sections {
			p := spot{core, c.Res}
			found[p] = max(found[p], c.Len)
		}
	}
	return found
}

// wait returns how long the sections with res on all of the cores but own are, together, each with the tick that may be lost behind it.
func (l longest) wait(cores, own, res int) int {
	sum := 0
	for core := range cores {
		n, ok := l[spot{core, res}]
		if ok && core != own {
			sum += n + 1
		}
	}
	return sum
}

// coreOf returns the core of task; none if it has none.
func coreOf(s api.System, where []int, task int) int {
	if task >= len(where) || where[task] < 0 || where[task] >= s.Cores {
		return none
	}
	return where[task]
}
