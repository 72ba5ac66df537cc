package table

import (
	"tourbillon/api"
	"tourbillon/pack"
	"tourbillon/taskset"
)

// version is the first number of every table.
const version = 2

// numbers returns the numbers of t, which is valid.
func numbers(t api.Table) []int {
	l := append([]int{version}, systemNumbers(t.System)...)
	for _, e := range t.Entries {
		l = append(l, len(e.Pieces))
		for _, p := range e.Pieces {
			l = append(l, p.Core, p.Budget, p.Deadline, p.Priority, digit(p.Tight))
		}
		l = append(l, e.Bound)
	}
	return l
}

// systemNumbers returns the numbers of s, of which only taskset knows the order. A valid system makes no error.
func systemNumbers(s api.System) []int {
	b, _ := taskset.Encode(s)
	content, _ := pack.Open(b)
	l, _ := pack.Read(content)
	return l
}

// system returns the system of which l are the numbers; an error if they are not those of one.
func system(l []int) (api.System, api.Errno) {
	content, err := pack.Write(l)
	if err != api.OK {
		return api.System{}, err
	}
	b, err := pack.Seal(content)
	if err != api.OK {
		return api.System{}, err
	}
	return taskset.Decode(b)
}

// digit returns the number that stands for b.
func digit(b bool) int { return map[bool]int{false: 0, true: 1}[b] }
