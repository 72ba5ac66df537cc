package valid

import (
	"go/ast"
	"go/parser"
	"go/token"
	"math/big"
	"path/filepath"
	"reflect"
	"slices"
	"strings"
	"testing"

	"tourbillon/api"
)

const (
	most    = 1<<63 - 1
	least   = -1 << 63
	maxTime = 1 << 40
)

// right is the finding of a valid system.
var right = Finding{api.OK, -1, -1}

// wrong returns the finding of a condition that is violated there.
func wrong(task, section int) Finding { return Finding{api.ErrBound, task, section} }

// finds holds what Check and Right return against what is wanted.
func finds(t *testing.T, s api.System, want Finding) {
	t.Helper()
	if f := Check(s); f != want {
		t.Fatalf("Check(%v) = %v, want %v", s, f, want)
	}
	if r := Right(s); r != (want == right) {
		t.Fatalf("Right(%v) = %v, want %v", s, r, want == right)
	}
}

// one returns the system of the chapter's example.
func one() api.System {
	return api.System{Cores: 1, Policy: api.Fixed, Protocol: api.Msrp, Latency: 1, Tasks: []api.Task{{Period: 10, Deadline: 10, Wcet: 3}}}
}

// ordinary returns a valid system with sections that lie apart, and that touch.
func ordinary() api.System {
	return api.System{
		Cores: 2, Policy: api.Edf, Protocol: api.Msrp, Release: 3, Switch: 1, Finish: 2, Latency: 4, Resources: 3,
		Tasks: []api.Task{
			{Period: 100, Deadline: 90, Wcet: 50, Sections: []api.Section{{At: 0, Res: 2, Len: 5}, {At: 5, Res: 0, Len: 7}, {At: 20, Res: 2, Len: 30}}},
			{Period: 70, Deadline: 70, Wcet: 20},
			{Period: 60, Deadline: 50, Wcet: 50, Sections: []api.Section{{At: 49, Res: 1, Len: 1}}},
		},
	}
}

// smallest returns a valid system of which all numbers are at their least values.
func smallest() api.System {
	return api.System{Cores: 1, Policy: api.Fixed, Protocol: api.Msrp, Latency: 1, Tasks: []api.Task{{Period: 1, Deadline: 1, Wcet: 1}}}
}

// greatest returns a valid system of which all numbers are at their greatest values that go with each other.
func greatest() api.System {
	s := api.System{Cores: 8, Policy: api.Fixed, Protocol: api.Mrsp, Release: 50, Switch: 50, Finish: 50, Latency: 50, Resources: 8}
	for range 24 {
		s.Tasks = append(s.Tasks, api.Task{
			Period: maxTime, Deadline: maxTime, Wcet: maxTime,
			Sections: []api.Section{{At: 0, Res: 7, Len: maxTime - 3}, {At: maxTime - 3, Res: 7, Len: 1}, {At: maxTime - 2, Res: 7, Len: 1}, {At: maxTime - 1, Res: 7, Len: 1}},
		})
	}
	return s
}

// shared returns a system with a section of as much work as there may be in each task, so many tasks.
func shared(tasks int) api.System {
	s := greatest()
	s.Tasks = s.Tasks[:tasks]
	for i := range s.Tasks {
		s.Tasks[i].Sections = []api.Section{{At: 0, Res: 7, Len: maxTime}}
	}
	return s
}

// systems returns the valid systems from which others are made.
func systems() []api.System {
	return []api.System{one(), ordinary(), smallest(), greatest(), shared(1), shared(24)}
}

// plain returns a copy of s that shares nothing with s.
func plain(s api.System) api.System {
	s.Tasks = slices.Clone(s.Tasks)
	for i := range s.Tasks {
		s.Tasks[i].Sections = slices.Clone(s.Tasks[i].Sections)
	}
	return s
}

// places returns where the numbers of s stand, in the order in which they are checked.
func places(s *api.System) []*int {
	l := []*int{&s.Cores, &s.Policy, &s.Protocol, &s.Release, &s.Switch, &s.Finish, &s.Latency, &s.Resources}
	for i := range s.Tasks {
		task := &s.Tasks[i]
		l = append(l, &task.Period, &task.Deadline, &task.Wcet)
		for j := range task.Sections {
			l = append(l, &task.Sections[j].At, &task.Sections[j].Res, &task.Sections[j].Len)
		}
	}
	return l
}

// with returns a copy of s with n at a place.
func with(s api.System, place, n int) api.System {
	s = plain(s)
	*places(&s)[place] = n
	return s
}

// edges returns numbers about the bounds of the chapter, about n, and the least and the greatest ones.
func edges(n int) []int {
	l := []int{least, least + 1, -maxTime, -1 << 32, -51, -2, -1, 0, 1, 2, 3, 4, 7, 8, 9, 49, 50, 51, 1 << 31, 1 << 32, 1<<32 + 1, maxTime - 1, maxTime, maxTime + 1, 1 << 41, 1 << 62, most - maxTime, most - 1, most}
	return append(l, n-1, n, n+1, n+1<<32)
}

// source returns a function that answers numbers from 0 to n - 1 in a fixed order.
func source() func(n int) int {
	state := uint64(1)
	return func(n int) int {
		state = state*6364136223846793005 + 1442695040888963407
		return int(state>>33) % n
	}
}

// condition is a condition of the chapter: whether it holds, and where it belongs.
type condition struct {
	holds         bool
	task, section int
}

// conditions returns all conditions of a system, in their order, each of them whether the others hold or not.
func conditions(s api.System) []condition {
	var l []condition
	ask := func(task, section int, holds ...bool) {
		for _, h := range holds {
			l = append(l, condition{h, task, section})
		}
	}
	ask(-1, -1,
		s.Cores >= 1 && s.Cores <= 8,
		s.Policy == 1 || s.Policy == 2,
		s.Protocol == 1 || s.Protocol == 2 && s.Policy == 1,
		s.Release >= 0 && s.Release <= 50, s.Switch >= 0 && s.Switch <= 50, s.Finish >= 0 && s.Finish <= 50,
		s.Latency >= 1 && s.Latency <= 50,
		s.Resources >= 0 && s.Resources <= 8,
		len(s.Tasks) >= 1 && len(s.Tasks) <= 24)
	for i, task := range s.Tasks {
		ask(i, -1,
			task.Period >= 1 && task.Period <= maxTime,
			task.Deadline >= 1 && task.Deadline <= task.Period,
			task.Wcet >= 1 && task.Wcet <= task.Deadline,
			len(task.Sections) <= 4)
		end := new(big.Int)
		for j, c := range task.Sections {
			at, size := big.NewInt(int64(c.At)), big.NewInt(int64(c.Len))
			before := end
			end = new(big.Int).Add(at, size)
			ask(i, j, at.Cmp(before) >= 0, c.Res >= 0 && c.Res < s.Resources, c.Len >= 1, end.Cmp(big.NewInt(int64(task.Wcet))) <= 0)
		}
	}
	return l
}

// spell returns what the chapter asks Check for.
func spell(s api.System) Finding {
	for _, c := range conditions(s) {
		if !c.holds {
			return wrong(c.task, c.section)
		}
	}
	return right
}

// spelt holds Check against what is spelt, and reports whether the system is valid.
func spelt(t *testing.T, s api.System) bool {
	t.Helper()
	want := spell(s)
	finds(t, s, want)
	return want == right
}

// P8.1

func TestExamplesOfTheChapter(t *testing.T) {
	finds(t, one(), right)
	s := one()
	s.Policy, s.Protocol = api.Edf, api.Mrsp
	finds(t, s, wrong(-1, -1))
	s = one()
	s.Tasks[0].Sections = []api.Section{{At: 2, Res: 0, Len: 1}}
	finds(t, s, wrong(0, 0))
	s.Resources = 1
	finds(t, s, right)
}

func TestValidSystems(t *testing.T) {
	for _, s := range systems() {
		finds(t, s, right)
	}
	finds(t, api.System{}, wrong(-1, -1))
}

// TestNumbersOfTheSystem: from their least to their greatest values, one beyond each, and far away.
func TestNumbersOfTheSystem(t *testing.T) {
	for _, c := range []struct {
		place     func(s *api.System) *int
		low, high int
	}{
		{func(s *api.System) *int { return &s.Cores }, 1, 8},
		{func(s *api.System) *int { return &s.Release }, 0, 50},
		{func(s *api.System) *int { return &s.Switch }, 0, 50},
		{func(s *api.System) *int { return &s.Finish }, 0, 50},
		{func(s *api.System) *int { return &s.Latency }, 1, 50},
		{func(s *api.System) *int { return &s.Resources }, 0, 8},
	} {
		s := one()
		for n := c.low; n <= c.high; n++ {
			*c.place(&s) = n
			finds(t, s, right)
		}
		for _, n := range []int{c.low - 1, c.high + 1, c.low - 2, c.high + 2, -c.high, 255, 256, 257, 1<<32 + c.low, -1<<32 + c.low, maxTime, 1 << 62, most - 1, most, least, least + 1} {
			*c.place(&s) = n
			finds(t, s, wrong(-1, -1))
		}
	}
}

// TestPoliciesAndProtocols: Mrsp goes with Fixed only, and other numbers with nothing.
func TestPoliciesAndProtocols(t *testing.T) {
	numbers := []int{least, -maxTime, -2, -1, 0, 1, 2, 3, 4, 255, 257, 1<<32 + 1, 1<<32 + 2, most}
	found := 0
	for _, policy := range numbers {
		for _, protocol := range numbers {
			s := one()
			s.Policy, s.Protocol = policy, protocol
			switch [2]int{policy, protocol} {
			case [2]int{api.Fixed, api.Msrp}, [2]int{api.Fixed, api.Mrsp}, [2]int{api.Edf, api.Msrp}:
				found++
				finds(t, s, right)
			default:
				finds(t, s, wrong(-1, -1))
			}
		}
	}
	if found != 3 {
		t.Errorf("%d policies with protocols are right", found)
	}
}

func TestHowManyTasks(t *testing.T) {
	s := one()
	task := s.Tasks[0]
	for _, tasks := range [][]api.Task{nil, {}, make([]api.Task, 0, 5), slices.Repeat([]api.Task{task}, 3)[:0]} {
		s.Tasks = tasks
		finds(t, s, wrong(-1, -1))
	}
	for n := 1; n <= 24; n++ {
		s.Tasks = slices.Repeat([]api.Task{task}, n)
		finds(t, s, right)
	}
	for _, n := range []int{25, 26, 48, 256, 257, 65537} {
		s.Tasks = slices.Repeat([]api.Task{task}, n)
		finds(t, s, wrong(-1, -1))
		s.Tasks = make([]api.Task, n)
		finds(t, s, wrong(-1, -1))
	}
}

// TestNumbersOfATask: each with each, whichever task it is.
func TestNumbersOfATask(t *testing.T) {
	numbers := []int{least, -1, 0, 1, 2, 3, 100, 1 << 32, maxTime - 1, maxTime, maxTime + 1, maxTime + 2, 1 << 62, most}
	for _, tasks := range []int{1, 2, 24} {
		s := one()
		s.Tasks = slices.Repeat(s.Tasks, tasks)
		for at := range tasks {
			s := plain(s)
			for _, period := range numbers {
				for _, deadline := range numbers {
					for _, wcet := range numbers {
						s.Tasks[at] = api.Task{Period: period, Deadline: deadline, Wcet: wcet}
						want := wrong(at, -1)
						if 1 <= wcet && wcet <= deadline && deadline <= period && period <= maxTime {
							want = right
						}
						finds(t, s, want)
					}
				}
			}
		}
	}
}

// TestBoundsOfATask: equal to each other, and one beyond.
func TestBoundsOfATask(t *testing.T) {
	for _, n := range []int{1, 2, 10, maxTime - 1, maxTime} {
		for _, c := range []struct {
			task api.Task
			want Finding
		}{
			{api.Task{Period: n, Deadline: n, Wcet: n}, right},
			{api.Task{Period: n, Deadline: n, Wcet: 1}, right},
			{api.Task{Period: n, Deadline: 1, Wcet: 1}, right},
			{api.Task{Period: n, Deadline: n, Wcet: n + 1}, wrong(1, -1)},
			{api.Task{Period: n, Deadline: n + 1, Wcet: n}, wrong(1, -1)},
			{api.Task{Period: n - 1, Deadline: n, Wcet: n}, wrong(1, -1)},
			{api.Task{Period: n, Deadline: n - 1, Wcet: n}, wrong(1, -1)},
			{api.Task{Period: n, Deadline: n, Wcet: 0}, wrong(1, -1)},
			{api.Task{Period: n, Deadline: 0, Wcet: 1}, wrong(1, -1)},
			{api.Task{Period: n, Deadline: 0, Wcet: 0}, wrong(1, -1)},
			{api.Task{Period: 0, Deadline: 0, Wcet: 0}, wrong(1, -1)},
			{api.Task{Period: -n, Deadline: -n, Wcet: -n}, wrong(1, -1)},
			{api.Task{Period: maxTime + n, Deadline: n, Wcet: n}, wrong(1, -1)},
			{api.Task{Period: maxTime + n, Deadline: maxTime + n, Wcet: maxTime + n}, wrong(1, -1)},
		} {
			s := ordinary()
			s.Tasks[1] = c.task
			finds(t, s, c.want)
		}
	}
}

// row returns so many sections of one tick each, that touch.
func row(n int) []api.Section {
	var l []api.Section
	for i := range n {
		l = append(l, api.Section{At: i, Len: 1})
	}
	return l
}

// TestHowManySections: no section is at fault where there are too many, whatever they are.
func TestHowManySections(t *testing.T) {
	for _, tasks := range []int{1, 2, 24} {
		for at := range tasks {
			s := one()
			s.Resources = 1
			s.Tasks = slices.Repeat([]api.Task{{Period: 10000, Deadline: 10000, Wcet: 10000}}, tasks)
			for n := range 5 {
				s.Tasks[at].Sections = row(n)
				finds(t, s, right)
			}
			s.Tasks[at].Sections = []api.Section{}
			finds(t, s, right)
			for _, n := range []int{5, 6, 8, 256, 257, 5000} {
				s.Tasks[at].Sections = row(n)
				finds(t, s, wrong(at, -1))
				s.Tasks[at].Sections = make([]api.Section, n)
				finds(t, s, wrong(at, -1))
			}
		}
	}
}

// within10 returns a system with one task of 10 units of work in 20 ticks, with these sections, and so many resources.
func within10(resources int, sections ...api.Section) api.System {
	return api.System{Cores: 1, Policy: api.Fixed, Protocol: api.Mrsp, Latency: 1, Resources: resources, Tasks: []api.Task{{Period: 20, Deadline: 20, Wcet: 10, Sections: sections}}}
}

// TestWhereSectionsLie: from 0 on, to the end of the work, touching, and beyond.
func TestWhereSectionsLie(t *testing.T) {
	for _, c := range []struct {
		sections []api.Section
		want     Finding
	}{
		{[]api.Section{{At: 0, Len: 10}}, right},
		{[]api.Section{{At: 0, Len: 11}}, wrong(0, 0)},
		{[]api.Section{{At: 1, Len: 9}}, right},
		{[]api.Section{{At: 1, Len: 10}}, wrong(0, 0)},
		{[]api.Section{{At: 9, Len: 1}}, right},
		{[]api.Section{{At: 9, Len: 2}}, wrong(0, 0)},
		{[]api.Section{{At: 10, Len: 1}}, wrong(0, 0)},
		{[]api.Section{{At: 10, Len: 0}}, wrong(0, 0)},
		{[]api.Section{{At: 11, Len: -1}}, wrong(0, 0)},
		{[]api.Section{{At: 0, Len: 0}}, wrong(0, 0)},
		{[]api.Section{{At: 5, Len: -1}}, wrong(0, 0)},
		{[]api.Section{{At: -1, Len: 1}}, wrong(0, 0)},
		{[]api.Section{{At: -1, Len: 5}}, wrong(0, 0)},
		{[]api.Section{{At: 2, Len: 3}, {At: 5, Len: 2}}, right},
		{[]api.Section{{At: 2, Len: 3}, {At: 6, Len: 2}}, right},
		{[]api.Section{{At: 2, Len: 3}, {At: 4, Len: 2}}, wrong(0, 1)},
		{[]api.Section{{At: 2, Len: 3}, {At: 2, Len: 3}}, wrong(0, 1)},
		{[]api.Section{{At: 2, Len: 5}, {At: 3, Len: 1}}, wrong(0, 1)},
		{[]api.Section{{At: 5, Len: 3}, {At: 0, Len: 2}}, wrong(0, 1)},
		{[]api.Section{{At: 5, Len: 3}, {At: -1, Len: 2}}, wrong(0, 1)},
		{[]api.Section{{At: 0, Len: 5}, {At: 5, Len: 5}}, right},
		{[]api.Section{{At: 0, Len: 5}, {At: 5, Len: 6}}, wrong(0, 1)},
		{[]api.Section{{At: 0, Len: 10}, {At: 10, Len: 1}}, wrong(0, 1)},
		{[]api.Section{{At: 0, Len: 1}, {At: 3, Len: 1}, {At: 4, Len: 3}, {At: 9, Len: 1}}, right},
		{[]api.Section{{At: 0, Len: 1}, {At: 3, Len: 1}, {At: 2, Len: 3}, {At: 9, Len: 1}}, wrong(0, 2)},
		{[]api.Section{{At: 0, Len: 1}, {At: 3, Len: 1}, {At: 4, Len: 3}, {At: 6, Len: 1}}, wrong(0, 3)},
		{[]api.Section{{At: 0, Len: 1}, {At: 3, Len: 1}, {At: 4, Len: 3}, {At: 9, Len: 2}}, wrong(0, 3)},
	} {
		finds(t, within10(1, c.sections...), c.want)
	}
}

// TestSectionsOfTasksAreApart: the first section of each task may begin at 0, wherever those of the task before it end.
func TestSectionsOfTasksAreApart(t *testing.T) {
	s := within10(1, api.Section{At: 8, Len: 2})
	s.Tasks = append(s.Tasks, api.Task{Period: 5, Deadline: 4, Wcet: 3, Sections: []api.Section{{At: 0, Len: 1}, {At: 1, Len: 2}}})
	finds(t, s, right)
	s.Tasks[0], s.Tasks[1] = s.Tasks[1], s.Tasks[0]
	finds(t, s, right)
	s.Tasks[0].Wcet = 2
	finds(t, s, wrong(0, 1))
	s.Tasks[0], s.Tasks[1] = s.Tasks[1], s.Tasks[0]
	finds(t, s, wrong(1, 1))
}

// TestTheEndIsHeldAgainstTheWork: not against the deadline, nor the period.
func TestTheEndIsHeldAgainstTheWork(t *testing.T) {
	s := api.System{Cores: 1, Policy: api.Edf, Protocol: api.Msrp, Latency: 1, Resources: 1}
	for _, wcet := range []int{1, 7, 30, 40} {
		for end := 1; end <= 60; end++ {
			for at := range end {
				s.Tasks = []api.Task{{Period: 50, Deadline: 40, Wcet: wcet, Sections: []api.Section{{At: at, Len: end - at}}}}
				want := right
				if end > wcet {
					want = wrong(0, 0)
				}
				finds(t, s, want)
			}
		}
	}
}

func TestResources(t *testing.T) {
	for resources := range 9 {
		finds(t, within10(resources), right)
		for res := range resources {
			finds(t, within10(resources, api.Section{At: 0, Res: res, Len: 1}), right)
			finds(t, within10(resources, api.Section{At: 0, Res: res, Len: 1}, api.Section{At: 1, Res: resources - 1 - res, Len: 1}), right)
		}
		for _, res := range []int{resources, resources + 1, 9, -1, -2, -resources - 1, 1 << 32, maxTime, most, least} {
			finds(t, within10(resources, api.Section{At: 0, Res: res, Len: 1}), wrong(0, 0))
			if resources > 0 {
				finds(t, within10(resources, api.Section{At: 0, Len: 1}, api.Section{At: 1, Res: res, Len: 1}), wrong(0, 1))
			}
		}
	}
}

// TestEndsThatAreNoNumbers: their sums of 64 bits would be small, or just the work.
func TestEndsThatAreNoNumbers(t *testing.T) {
	for _, wcet := range []int{1, 10, maxTime} {
		for _, c := range []api.Section{
			{At: 1, Len: most}, {At: 2, Len: most}, {At: most, Len: 1}, {At: most, Len: most}, {At: most, Len: 2},
			{At: 1 << 62, Len: 1 << 62}, {At: 1 << 62, Len: most}, {At: most - 5, Len: 10}, {At: wcet, Len: most}, {At: wcet - 1, Len: most},
			{At: most, Len: least}, {At: 0, Len: least}, {At: 0, Len: most}, {At: wcet, Len: least}, {At: most, Len: -1}, {At: most, Len: -most}, {At: most, Len: 0},
			{At: least, Len: most}, {At: least, Len: least}, {At: least, Len: 1}, {At: -1, Len: least}, {At: -most, Len: most}, {At: -most, Len: -2}, {At: -1, Len: most},
		} {
			s := one()
			s.Resources = 1
			s.Tasks[0] = api.Task{Period: maxTime, Deadline: maxTime, Wcet: wcet, Sections: []api.Section{c}}
			finds(t, s, wrong(0, 0))
			s.Tasks[0].Sections = []api.Section{{At: 0, Len: 1}, c, {At: 1, Len: 1}}
			finds(t, s, wrong(0, 1))
		}
	}
}

// TestFaultsOfTheSystemComeFirst: ahead of all that is wrong with tasks.
func TestFaultsOfTheSystemComeFirst(t *testing.T) {
	bad := ordinary()
	bad.Tasks[0].Sections[0].Len = 0
	bad.Tasks[1].Period = 0
	finds(t, bad, wrong(0, 0))
	for place := range 8 {
		finds(t, with(bad, place, -1), wrong(-1, -1))
		finds(t, with(bad, place, most), wrong(-1, -1))
	}
	bad.Tasks = slices.Repeat(bad.Tasks, 9)
	finds(t, bad, wrong(-1, -1))
	bad.Tasks = bad.Tasks[:24]
	finds(t, bad, wrong(0, 0))
}

// TestSeveralFaults: of a task ahead of its sections, and of a section ahead of the tasks behind it.
func TestSeveralFaults(t *testing.T) {
	section := func(at, res, size int) []api.Section { return []api.Section{{At: at, Res: res, Len: size}} }
	good := api.Task{Period: 9, Deadline: 8, Wcet: 7, Sections: section(6, 0, 1)}
	badTask := api.Task{Period: 9, Deadline: 10, Wcet: 7, Sections: section(6, 0, 1)}
	badSection := api.Task{Period: 9, Deadline: 8, Wcet: 7, Sections: section(6, 1, 1)}
	badBoth := api.Task{Period: 9, Deadline: 8, Wcet: 9, Sections: section(-1, -1, -1)}
	tooMany := api.Task{Period: 9, Deadline: 8, Wcet: 7, Sections: slices.Repeat(section(-1, 9, 0), 5)}
	manyBad := api.Task{Period: 9, Deadline: 8, Wcet: 7, Sections: []api.Section{{At: 0, Len: 1}, {At: 0, Len: 1}, {At: 0, Len: 0}, {At: 0, Res: 9, Len: 1}}}
	for _, c := range []struct {
		tasks []api.Task
		want  Finding
	}{
		{[]api.Task{good, good, good}, right},
		{[]api.Task{badBoth}, wrong(0, -1)},
		{[]api.Task{tooMany}, wrong(0, -1)},
		{[]api.Task{manyBad}, wrong(0, 1)},
		{[]api.Task{badSection, badTask}, wrong(0, 0)},
		{[]api.Task{badTask, badSection}, wrong(0, -1)},
		{[]api.Task{good, badSection, badTask}, wrong(1, 0)},
		{[]api.Task{good, badTask, badSection}, wrong(1, -1)},
		{[]api.Task{good, badTask, badTask}, wrong(1, -1)},
		{[]api.Task{good, badSection, badSection}, wrong(1, 0)},
		{[]api.Task{good, manyBad, tooMany, good}, wrong(1, 1)},
		{[]api.Task{good, good, tooMany, manyBad}, wrong(2, -1)},
		{[]api.Task{good, good, good, badBoth, badBoth}, wrong(3, -1)},
		{[]api.Task{badSection, badSection, badSection, good}, wrong(0, 0)},
	} {
		s := one()
		s.Resources = 1
		s.Tasks = c.tasks
		finds(t, s, c.want)
		s.Latency = 51
		finds(t, s, wrong(-1, -1))
	}
}

// TestEveryNumberExchanged: at each place of the systems, by all that is about the bounds.
func TestEveryNumberExchanged(t *testing.T) {
	for _, s := range systems() {
		for place, at := range places(&s) {
			for _, n := range edges(*at) {
				spelt(t, with(s, place, n))
			}
		}
	}
}

// TestTwoNumbersExchanged: so that several conditions are violated, or a second number makes up for the first.
func TestTwoNumbersExchanged(t *testing.T) {
	for _, s := range []api.System{one(), ordinary(), shared(1)} {
		for place, at := range places(&s) {
			for _, n := range edges(*at) {
				u := with(s, place, n)
				for _, at := range places(&u) {
					before := *at
					for _, m := range edges(before) {
						*at = m
						spelt(t, u)
					}
					*at = before
				}
			}
		}
	}
}

// TestEverySmallTask: with two sections, all their numbers about 0.
func TestEverySmallTask(t *testing.T) {
	valid := 0
	s := one()
	for resources := range 3 {
		for shape := range 4 * 4 * 4 {
			for sections := range 5 * 3 * 4 * 5 * 4 {
				s.Resources = resources
				s.Tasks = []api.Task{{Period: 3, Deadline: 3, Wcet: 3}, {
					Period: shape % 4, Deadline: shape / 4 % 4, Wcet: shape / 16,
					Sections: []api.Section{
						{At: sections%5 - 1, Res: sections/5%3 - 1, Len: sections / 15 % 4},
						{At: sections/60%5 - 1, Len: sections / 300},
					},
				}}
				if spelt(t, s) {
					valid++
				}
			}
		}
	}
	if valid == 0 {
		t.Error("none of the systems is valid")
	}
}

// anySystem returns a valid system, in a fixed order.
func anySystem(next func(int) int) api.System {
	s := api.System{Cores: 1 + next(8), Policy: 1 + next(2), Protocol: 1, Release: next(51), Switch: next(51), Finish: next(51), Latency: 1 + next(50), Resources: next(9)}
	if s.Policy == api.Fixed {
		s.Protocol += next(2)
	}
	for range 1 + next(24) {
		s.Tasks = append(s.Tasks, anyTask(next, s.Resources))
	}
	return s
}

// anyTask returns a valid task, with sections if there are resources.
func anyTask(next func(int) int, resources int) api.Task {
	upTo := func(n int) int { return 1 + (next(1<<31)<<31|next(1<<31))%n }
	task := api.Task{Period: upTo(maxTime >> next(40))}
	task.Deadline = upTo(task.Period)
	task.Wcet = upTo(task.Deadline)
	end := 0
	for range next(5) {
		if resources == 0 || end == task.Wcet {
			break
		}
		at := end
		if next(2) == 0 {
			at += upTo(task.Wcet-end) - 1
		}
		size := upTo(task.Wcet - at)
		task.Sections = append(task.Sections, api.Section{At: at, Res: next(resources), Len: size})
		end = at + size
	}
	return task
}

// TestSystemsInAFixedOrder: valid ones, and the same with some numbers exchanged.
func TestSystemsInAFixedOrder(t *testing.T) {
	next := source()
	for range 3000 {
		s := anySystem(next)
		finds(t, s, right)
		for range 1 + next(4) {
			place := next(len(places(&s)))
			l := edges(*places(&s)[place])
			s = with(s, place, l[next(len(l))])
			spelt(t, s)
		}
	}
}

// TestArgumentIsNotChanged: nor what stands behind its lists' lengths, which is not looked at.
func TestArgumentIsNotChanged(t *testing.T) {
	whole := greatest()
	whole.Tasks[2].Sections[3] = api.Section{At: least, Res: -7, Len: most}
	whole.Tasks[9].Deadline = -5
	s := plain(whole)
	s.Tasks[2].Sections = s.Tasks[2].Sections[:3]
	s.Tasks = s.Tasks[:9]
	finds(t, s, right)
	s.Cores = 0
	finds(t, s, wrong(-1, -1))
	s.Cores = 8
	s.Tasks[2].Sections = s.Tasks[2].Sections[:4]
	finds(t, s, wrong(2, 3))
	s.Tasks = s.Tasks[:24]
	if !reflect.DeepEqual(s, whole) {
		t.Errorf("the argument was changed: %v, want %v", s, whole)
	}
}

// TestCallsAreApart: what a call finds does not hang on those before it.
func TestCallsAreApart(t *testing.T) {
	good, bad, worse := ordinary(), with(ordinary(), 13, 0), with(ordinary(), 0, 0)
	for range 3 {
		finds(t, bad, wrong(0, 0))
		finds(t, good, right)
		finds(t, worse, wrong(-1, -1))
		finds(t, good, right)
	}
}

// P8.2

// mostOften is how often a sum of the layers takes one number at most, and more: a section for each core and each section of each task that may wait for it.
const mostOften = 8 * 4 * 24

// small holds the numbers of a system that Check takes for valid against what keeps the sums of the layers from overflowing.
func small(t *testing.T, s api.System) {
	t.Helper()
	sum := new(big.Int)
	for _, place := range places(&s) {
		if *place < 0 || *place > maxTime {
			t.Fatalf("%v is valid, with %d", s, *place)
		}
		sum.Add(sum, big.NewInt(int64(*place)))
	}
	if often := sum.Mul(sum, big.NewInt(mostOften)); !often.IsInt64() {
		t.Fatalf("the numbers of %v, each so often, are no number of 64 bits: %v", s, often)
	}
	if n := costs(s); !n.IsInt64() {
		t.Fatalf("what the tasks of %v cost is no number of 64 bits: %v", s, n)
	}
	for _, task := range s.Tasks {
		for _, c := range task.Sections {
			if end := c.At + c.Len; end <= c.At || end > task.Wcet {
				t.Fatalf("in %v a section ends at %d", s, end)
			}
		}
	}
}

// costs returns the sum, over all tasks, of what chapter 17 says that they cost their cores, where each core has some of them.
func costs(s api.System) *big.Int {
	longest := map[[2]int]int{} // of a core and a resource
	for i, task := range s.Tasks {
		for _, c := range task.Sections {
			key := [2]int{i % s.Cores, c.Res}
			longest[key] = max(longest[key], c.Len)
		}
	}
	sum := new(big.Int)
	add := func(n int) { sum.Add(sum, big.NewInt(int64(n))) }
	for i, task := range s.Tasks {
		for _, n := range []int{task.Wcet, s.Release, s.Finish, s.Switch, s.Switch} {
			add(n)
		}
		for _, c := range task.Sections {
			for core := range s.Cores {
				if n := longest[[2]int{core, c.Res}]; n > 0 && core != i%s.Cores {
					add(n)
					add(1)
				}
			}
		}
	}
	return sum
}

// TestSumsOfTheGreatestSystems: nothing greater is valid, and they are small enough.
func TestSumsOfTheGreatestSystems(t *testing.T) {
	for _, s := range []api.System{greatest(), shared(24)} {
		finds(t, s, right)
		small(t, s)
		for place := range places(&s) {
			if place == 1 || place == 2 { // a policy and a protocol are no sizes
				continue
			}
			for _, n := range []int{*places(&s)[place] + 1, *places(&s)[place] + maxTime, most} {
				if Right(with(s, place, n)) {
					t.Fatalf("still valid: %v", with(s, place, n))
				}
			}
		}
	}
}

// TestSumsOfWhatIsValid: whatever numbers stand in a system, and wherever.
func TestSumsOfWhatIsValid(t *testing.T) {
	next := source()
	found := 0
	for _, s := range systems() {
		for place, at := range places(&s) {
			for _, n := range edges(*at) {
				if u := with(s, place, n); Right(u) {
					found++
					small(t, u)
				}
			}
		}
	}
	for range 3000 {
		s := anySystem(next)
		for range next(3) {
			place := next(len(places(&s)))
			l := edges(*places(&s)[place])
			s = with(s, place, l[next(len(l))])
		}
		if Right(s) {
			found++
			small(t, s)
		}
	}
	if found < 1000 {
		t.Errorf("only %d valid systems", found)
	}
}

// Ways

// sources returns the files of the package that are no tests.
func sources(t *testing.T) map[string]*ast.File {
	t.Helper()
	names, err := filepath.Glob("*.go")
	if err != nil || len(names) == 0 {
		t.Fatal(names, err)
	}
	files := map[string]*ast.File{}
	for _, name := range names {
		if strings.HasSuffix(name, "_test.go") {
			continue
		}
		file, err := parser.ParseFile(token.NewFileSet(), name, nil, 0)
		if err != nil {
			t.Fatal(err)
		}
		files[name] = file
	}
	return files
}

// TestImports: the chapter lets the layer import package api only.
func TestImports(t *testing.T) {
	for name, file := range sources(t) {
		for _, i := range file.Imports {
			if i.Path.Value != `"tourbillon/api"` {
				t.Errorf("%s imports %s", name, i.Path.Value)
			}
		}
	}
}

// TestASwitchAndALabel: conditions are checked by a switch, and a fault leaves the loops by a label.
func TestASwitchAndALabel(t *testing.T) {
	switches, labels, leaves := 0, 0, 0
	for _, file := range sources(t) {
		ast.Inspect(file, func(n ast.Node) bool {
			switch x := n.(type) {
			case *ast.SwitchStmt:
				switches++
			case *ast.LabeledStmt:
				labels++
			case *ast.BranchStmt:
				if x.Label != nil {
					leaves++
				}
			}
			return true
		})
	}
	if switches == 0 || labels == 0 || leaves == 0 {
		t.Errorf("%d switches, %d labels, %d branches to a label", switches, labels, leaves)
	}
}
