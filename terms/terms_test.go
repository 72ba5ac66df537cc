package terms

import (
	"go/ast"
	"go/parser"
	"go/token"
	"math/big"
	"path/filepath"
	"reflect"
	"slices"
	"strings"
	"testing"

	"tourbillon/api"
	"tourbillon/valid"
)

const (
	most    = 1<<63 - 1
	least   = -1 << 63
	maxTime = api.MaxTime
)

// extremes are no cores, resources, tasks or sections. Some of them have the lower bits of one.
var extremes = []int{most, most - 1, least, least + 1, least + 2, -1 << 31, -1 << 32, -1<<32 + 1, -1 << 53, 1 << 16, 1<<31 - 1, 1 << 31, 1 << 32, 1<<32 + 1, 1<<32 + 3, 1 << 53, 1 << 62, 1<<62 + 2}

// noNumbers are none of the numbers from 0 to 23, nor are the extremes.
var noNumbers = append([]int{-1, -2, -3, -8, -24, 24, 25, 31, 32, 33, 64, 255, 256, 256 + 1}, extremes...)

// longests holds what Longest returns against what is wanted.
func longests(t *testing.T, s api.System, where []int, core, res, want int) {
	t.Helper()
	if got := Longest(s, where, core, res); got != want {
		t.Fatalf("Longest(%v, %v, %d, %d) = %d, want %d", s, where, core, res, got, want)
	}
}

// waits holds what Wait and Hold return against what is wanted.
func waits(t *testing.T, s api.System, where []int, task, section, wait, hold int) {
	t.Helper()
	if got := Wait(s, where, task, section); got != wait {
		t.Fatalf("Wait(%v, %v, %d, %d) = %d, want %d", s, where, task, section, got, wait)
	}
	if got := Hold(s, where, task, section); got != hold {
		t.Fatalf("Hold(%v, %v, %d, %d) = %d, want %d", s, where, task, section, got, hold)
	}
}

// extras holds what Extra returns against what is wanted.
func extras(t *testing.T, s api.System, where []int, task, want int) {
	t.Helper()
	if got := Extra(s, where, task); got != want {
		t.Fatalf("Extra(%v, %v, %d) = %d, want %d", s, where, task, got, want)
	}
}

// uses holds what Uses returns against what is wanted.
func uses(t *testing.T, s api.System, task int, want bool) {
	t.Helper()
	if got := Uses(s, task); got != want {
		t.Fatalf("Uses(%v, %d) = %v, want %v", s, task, got, want)
	}
}

// nothing holds that the calls answer nothing about these arguments.
func nothing(t *testing.T, s api.System, where []int, core, res, task, section int) {
	t.Helper()
	longests(t, s, where, core, res, 0)
	waits(t, s, where, task, section, 0, 0)
	extras(t, s, where, task, 0)
	uses(t, s, task, false)
}

// of returns a section of so many units with a resource; at is where it begins.
func of(at, res, size int) api.Section { return api.Section{At: at, Res: res, Len: size} }

// with returns a task with these sections.
func with(sections ...api.Section) api.Task {
	return api.Task{Period: 1000, Deadline: 900, Wcet: 800, Sections: sections}
}

// row returns a task with sections with a resource, of these sizes, one behind the other.
func row(res int, sizes ...int) api.Task {
	task, at := with(), 0
	for _, size := range sizes {
		task.Sections = append(task.Sections, of(at, res, size))
		at += size
	}
	return task
}

// system returns a valid system of these tasks.
func system(cores, resources int, tasks ...api.Task) api.System {
	return api.System{Cores: cores, Policy: api.Fixed, Protocol: api.Msrp, Latency: 1, Resources: resources, Tasks: tasks}
}

// same returns so many tasks on one core.
func same(tasks, core int) []int { return slices.Repeat([]int{core}, tasks) }

// upTo returns the numbers from 0 to n - 1.
func upTo(n int) []int {
	l := make([]int, n)
	for i := range l {
		l[i] = i
	}
	return l
}

// greatest returns a valid system of which all numbers are at their greatest values that go with each other; each task has a section of almost all its work.
func greatest() api.System {
	s := system(api.MaxCores, api.MaxRes)
	s.Protocol, s.Release, s.Switch, s.Finish, s.Latency = api.Mrsp, api.MaxCost, api.MaxCost, api.MaxCost, api.MaxLatency
	for range api.MaxTasks {
		s.Tasks = append(s.Tasks, api.Task{Period: maxTime, Deadline: maxTime, Wcet: maxTime, Sections: []api.Section{
			of(0, 7, maxTime-3), of(maxTime-3, 7, 1), of(maxTime-2, 7, 1), of(maxTime-1, 7, 1)}})
	}
	return s
}

// mixed returns a valid system with tasks without sections, with one, and with as many as there may be, with the same resource and with different ones; and where its tasks are.
func mixed() (api.System, []int) {
	return system(3, 4,
		with(of(0, 0, 3), of(5, 1, 7), of(20, 0, 11)),
		with(),
		with(of(2, 1, 5)),
		with(of(0, 0, 13), of(13, 0, 2), of(15, 1, 4), of(30, 3, 1)),
		with(of(1, 1, 9)),
		with(of(0, 3, 700)),
	), []int{0, 0, 1, 1, 2, -1}
}

// plain returns a copy of s that shares nothing with s.
func plain(s api.System) api.System {
	s.Tasks = slices.Clone(s.Tasks)
	for i := range s.Tasks {
		s.Tasks[i].Sections = slices.Clone(s.Tasks[i].Sections)
	}
	return s
}

// source returns a function that returns a number less than n, in a fixed order.
func source() func(n int) int {
	state := uint64(1)
	return func(n int) int {
		state = state*6364136223846793005 + 1442695040888963407
		return int(state >> 33 % uint64(n))
	}
}

// rival is the chapter in other words: a list of all sections with their cores, and sums without bound.
type rival struct {
	right bool
	s     api.System
	cores []int    // of each task; -1: it has none
	list  [][3]int // core, resource, Len; of tasks that have a core
}

func newRival(s api.System, where []int) rival {
	v := rival{right: valid.Right(s), s: s}
	for i, task := range s.Tasks {
		core := -1
		if i < len(where) && slices.Contains(upTo(max(0, min(s.Cores, 100))), where[i]) {
			core = where[i]
			for _, c := range task.Sections {
				v.list = append(v.list, [3]int{core, c.Res, c.Len})
			}
		}
		v.cores = append(v.cores, core)
	}
	slices.SortFunc(v.list, func(a, b [3]int) int { return slices.Compare(a[:], b[:]) })
	return v
}

func (v rival) longest(core, res int) int {
	n := 0
	for _, c := range v.list {
		if v.right && c[0] == core && c[1] == res {
			n = c[2] // they ascend
		}
	}
	return n
}

func (v rival) task(task int) (api.Task, bool) {
	for i, t := range v.s.Tasks {
		if i == task && v.right {
			return t, true
		}
	}
	return api.Task{}, false
}

func (v rival) section(task, section int) (api.Section, bool) {
	t, _ := v.task(task)
	for i, c := range t.Sections {
		if i == section {
			return c, true
		}
	}
	return api.Section{}, false
}

func (v rival) wait(task, section int) *big.Int {
	sum := new(big.Int)
	c, ok := v.section(task, section)
	for core := 0; ok && core < v.s.Cores; core++ {
		if n := v.longest(core, c.Res); core != v.cores[task] && n != 0 {
			sum.Add(sum, big.NewInt(int64(n))).Add(sum, big.NewInt(1))
		}
	}
	return sum
}

func (v rival) hold(task, section int) *big.Int {
	c, _ := v.section(task, section)
	return new(big.Int).Add(v.wait(task, section), big.NewInt(int64(c.Len)))
}

func (v rival) extra(task int) *big.Int {
	sum := new(big.Int)
	t, _ := v.task(task)
	for i := range t.Sections {
		sum.Add(sum, v.wait(task, i))
	}
	return sum
}

// equal tells whether n is that number.
func equal(n int, want *big.Int) bool { return want.IsInt64() && want.Int64() == int64(n) }

// spelt holds all that the calls answer about a system against the rival: for every core, resource, task and section, and some that are none.
func spelt(t *testing.T, s api.System, where []int) {
	t.Helper()
	v := newRival(s, where)
	for core := -1; core <= min(s.Cores, 9); core++ {
		for res := -1; res <= min(s.Resources, 9); res++ {
			if got, want := Longest(s, where, core, res), v.longest(core, res); got != want {
				t.Fatalf("Longest(%v, %v, %d, %d) = %d, want %d", s, where, core, res, got, want)
			}
		}
	}
	for task := -1; task <= len(s.Tasks); task++ {
		known, _ := v.task(task)
		if got, want := Uses(s, task), len(known.Sections) > 0; got != want {
			t.Fatalf("Uses(%v, %d) = %v, want %v", s, task, got, want)
		}
		if got, want := Extra(s, where, task), v.extra(task); !equal(got, want) {
			t.Fatalf("Extra(%v, %v, %d) = %d, want %v", s, where, task, got, want)
		}
		for section := -1; section <= min(len(known.Sections), 5); section++ {
			if got, want := Wait(s, where, task, section), v.wait(task, section); !equal(got, want) {
				t.Fatalf("Wait(%v, %v, %d, %d) = %d, want %v", s, where, task, section, got, want)
			}
			if got, want := Hold(s, where, task, section), v.hold(task, section); !equal(got, want) {
				t.Fatalf("Hold(%v, %v, %d, %d) = %d, want %v", s, where, task, section, got, want)
			}
		}
	}
}

// P14.1

func TestExamplesOfTheChapter(t *testing.T) {
	s, where := system(2, 1, with(of(0, 0, 3)), with(of(0, 0, 5))), []int{0, 1}
	longests(t, s, where, 1, 0, 5)
	waits(t, s, where, 0, 0, 6, 9)
	extras(t, s, where, 1, 4)
	spelt(t, s, where)
}

// TestLongestOfOneTask: the greatest of its sections with the resource, wherever it stands among them.
func TestLongestOfOneTask(t *testing.T) {
	for _, sizes := range [][]int{{1}, {7}, {1, 7}, {7, 1}, {7, 7}, {1, 2, 7}, {1, 7, 2}, {7, 2, 1}, {1, 2, 3, 7}, {7, 3, 2, 1}, {2, 7, 1, 7}} {
		s := system(1, 1, row(0, sizes...))
		longests(t, s, []int{0}, 0, 0, slices.Max(sizes))
		longests(t, s, []int{-1}, 0, 0, 0)
		spelt(t, s, []int{0})
	}
}

// TestLongestOfDifferentResources: those of other resources do not count.
func TestLongestOfDifferentResources(t *testing.T) {
	s := system(1, 3, with(of(0, 0, 2), of(5, 2, 9), of(20, 0, 4), of(30, 2, 1)))
	for res, want := range []int{4, 0, 9} {
		longests(t, s, []int{0}, 0, res, want)
	}
}

// TestLongestOfSeveralTasks: on one core, and on several ones.
func TestLongestOfSeveralTasks(t *testing.T) {
	s, where := mixed()
	for core, row := range [][]int{{11, 7, 0, 0}, {13, 5, 0, 1}, {0, 9, 0, 0}} {
		for res, want := range row {
			longests(t, s, where, core, res, want)
		}
	}
	one := []int{1, 1, 1, 1, 1, 1}
	for res, want := range []int{13, 9, 0, 700} {
		longests(t, s, one, 0, res, 0)
		longests(t, s, one, 1, res, want)
		longests(t, s, one, 2, res, 0)
	}
	spelt(t, s, where)
	spelt(t, s, one)
}

// TestLongestOnEveryCore: with every resource, the only section is found there and nowhere else.
func TestLongestOnEveryCore(t *testing.T) {
	for cores := 1; cores <= api.MaxCores; cores++ {
		for resources := 1; resources <= api.MaxRes; resources++ {
			for core := range cores {
				for res := range resources {
					s := system(cores, resources, with(), with(of(3, res, 6)))
					for c := -1; c <= api.MaxCores; c++ {
						for r := -1; r <= api.MaxRes; r++ {
							want := 0
							if c == core && r == res {
								want = 6
							}
							longests(t, s, []int{0, core}, c, r, want)
						}
					}
				}
			}
		}
	}
}

// TestLongestOfNone: no such core or resource, also the one that stands for a task without a core.
func TestLongestOfNone(t *testing.T) {
	s := greatest()
	for _, where := range [][]int{same(24, 0), same(24, 1), same(24, 7), same(24, -1), nil} {
		for _, n := range append([]int{8, 9, 16}, noNumbers...) {
			for _, m := range append([]int{0, 1, 7, 8}, noNumbers...) {
				longests(t, s, where, n, m, 0)
				longests(t, s, where, m, n, 0)
			}
		}
	}
	for cores := 1; cores < api.MaxCores; cores++ {
		s.Cores = cores
		for core := cores; core <= api.MaxCores; core++ {
			longests(t, s, same(24, core), core, 7, 0)
			longests(t, s, same(24, cores-1), core, 7, 0)
			longests(t, s, same(24, core), cores-1, 7, 0)
			longests(t, s, same(24, cores-1), cores-1, 7, maxTime-3)
		}
	}
}

// TestNoResources: nobody has a section.
func TestNoResources(t *testing.T) {
	s := system(2, 0, with(), with())
	for res := -1; res <= api.MaxRes; res++ {
		nothing(t, s, []int{0, 1}, 0, res, 1, 0)
	}
}

// TestWhereATaskHasNoCore: by an element that is none, or none at all.
func TestWhereATaskHasNoCore(t *testing.T) {
	s := system(3, 1, row(0, 4), row(0, 6))
	for _, n := range append([]int{3, 4, 7, 8}, noNumbers...) {
		for _, where := range [][]int{{1, n}, {1}, {1, n, 2}, {1, n, 0, 0, 0}} {
			for core, want := range []int{0, 4, 0} {
				longests(t, s, where, core, 0, want)
			}
			longests(t, s, where, n, 0, 0)
			waits(t, s, where, 0, 0, 0, 4)
			waits(t, s, where, 1, 0, 5, 11)
			extras(t, s, where, 0, 0)
			extras(t, s, where, 1, 5)
			uses(t, s, 1, true)
			spelt(t, s, where[:min(2, len(where))])
		}
	}
	for _, where := range [][]int{nil, {}, {-1}, {least, most}} {
		for core := range 3 {
			longests(t, s, where, core, 0, 0)
		}
		waits(t, s, where, 0, 0, 0, 4)
		waits(t, s, where, 1, 0, 0, 6)
		extras(t, s, where, 1, 0)
	}
}

// TestWhereIsLongerThanTheTasks: what stands behind their number is not looked at.
func TestWhereIsLongerThanTheTasks(t *testing.T) {
	s, where := mixed()
	for _, more := range [][]int{{0}, {2, 2, 2}, {-1, most, least}, same(24, 1), same(5000, 2)} {
		long := append(slices.Clone(where), more...)
		longests(t, s, long, 1, 0, 13)
		waits(t, s, long, 0, 1, 16, 23)
		spelt(t, s, long)
	}
}

// TestWhereIsShorterThanTheTasks: at every length, those behind it have no core; what stands behind its length is not looked at.
func TestWhereIsShorterThanTheTasks(t *testing.T) {
	s, where := mixed()
	for n := range where {
		cut := slices.Clone(where)
		for i := n; i < len(cut); i++ {
			cut[i] = -1
		}
		for core := range s.Cores {
			for res := range s.Resources {
				longests(t, s, where[:n], core, res, Longest(s, cut, core, res))
			}
		}
		for task := range s.Tasks {
			extras(t, s, where[:n], task, Extra(s, cut, task))
		}
		spelt(t, s, where[:n])
	}
}

func TestUses(t *testing.T) {
	s, _ := mixed()
	for task, want := range []bool{true, false, true, true, true, true} {
		uses(t, s, task, want)
	}
	for _, task := range append([]int{6, 7, -6}, noNumbers...) {
		uses(t, s, task, false)
	}
	for n := range api.MaxSections + 1 {
		s.Tasks[1].Sections = row(2, slices.Repeat([]int{1}, n)...).Sections
		uses(t, s, 1, n > 0)
	}
	s.Tasks[1].Sections = []api.Section{}
	uses(t, s, 1, false)
}

// TestEveryTaskUses: of as many as there may be, those that have a section.
func TestEveryTaskUses(t *testing.T) {
	for user := range api.MaxTasks {
		s := system(1, 1, slices.Repeat([]api.Task{with()}, api.MaxTasks)...)
		s.Tasks[user] = with(of(0, 0, 1))
		for task := -1; task <= api.MaxTasks; task++ {
			uses(t, s, task, task == user)
		}
	}
}

// P14.2

// TestWaitOfMixed: of each section, on one of three cores and on none.
func TestWaitOfMixed(t *testing.T) {
	s, where := mixed()
	for _, c := range []struct{ task, section, wait, hold int }{
		{0, 0, 14, 17},
		{0, 1, 6 + 10, 23},
		{0, 2, 14, 25},
		{2, 0, 8 + 10, 23},
		{3, 0, 12, 25},
		{3, 1, 12, 14},
		{3, 2, 18, 22},
		{3, 3, 0, 1},
		{4, 0, 8 + 6, 23},
		{5, 0, 2, 702},
	} {
		waits(t, s, where, c.task, c.section, c.wait, c.hold)
	}
	for task, want := range []int{44, 0, 18, 42, 14, 2} {
		extras(t, s, where, task, want)
	}
	spelt(t, s, where)
}

// TestOwnCoreDoesNotCount: however long its sections are, those of the task itself and of others.
func TestOwnCoreDoesNotCount(t *testing.T) {
	s := system(2, 1, row(0, 2, 100), row(0, 90), row(0, 3))
	where := []int{0, 0, 1}
	waits(t, s, where, 0, 0, 4, 6)
	waits(t, s, where, 0, 1, 4, 104)
	waits(t, s, where, 1, 0, 4, 94)
	waits(t, s, where, 2, 0, 101, 104)
	extras(t, s, where, 0, 8)
	where = []int{1, 1, 1}
	waits(t, s, where, 0, 0, 0, 2)
	waits(t, s, where, 1, 0, 0, 90)
	waits(t, s, where, 2, 0, 0, 3)
	extras(t, s, where, 0, 0)
}

// TestATaskWithoutACoreWaitsForAll: but its own sections stand nowhere, and nobody waits for them.
func TestATaskWithoutACoreWaitsForAll(t *testing.T) {
	s := system(3, 1, row(0, 2), row(0, 30), row(0, 4), row(0, 500))
	where := []int{0, 1, 2, -1}
	waits(t, s, where, 3, 0, 3+31+5, 539)
	waits(t, s, where, 0, 0, 31+5, 38)
	waits(t, s, where, 1, 0, 3+5, 38)
	waits(t, s, where, 2, 0, 3+31, 38)
	extras(t, s, where, 3, 39)
	where = []int{-1, -1, -1, -1}
	for task := range s.Tasks {
		waits(t, s, where, task, 0, 0, s.Tasks[task].Sections[0].Len)
		extras(t, s, where, task, 0)
	}
}

// TestCoresOnWhichNobodyHasTheResource: they take no tick, also if their tasks have other resources.
func TestCoresOnWhichNobodyHasTheResource(t *testing.T) {
	s := system(4, 2, row(0, 5), row(1, 60), with(), row(0, 8))
	for _, c := range []struct {
		where []int
		wait  int
	}{
		{[]int{0, 1, 2, 3}, 9},
		{[]int{0, 1, 2, 0}, 0},
		{[]int{0, 1, 2, 1}, 9},
		{[]int{0, 3, 2, 3}, 9},
		{[]int{0, 1, 2, -1}, 0},
		{[]int{-1, 1, 2, 3}, 9},
	} {
		waits(t, s, c.where, 0, 0, c.wait, c.wait+5)
		waits(t, s, c.where, 1, 0, 0, 60)
		extras(t, s, c.where, 0, c.wait)
		extras(t, s, c.where, 2, 0)
	}
}

// TestOneCore: nobody waits there, but a task that is not on it.
func TestOneCore(t *testing.T) {
	s := system(1, 1, slices.Repeat([]api.Task{row(0, 9, 5)}, api.MaxTasks)...)
	for task := range api.MaxTasks {
		where := same(api.MaxTasks, 0)
		waits(t, s, where, task, 0, 0, 9)
		waits(t, s, where, task, 1, 0, 5)
		extras(t, s, where, task, 0)
		where[task] = -1
		waits(t, s, where, task, 0, 10, 19)
		waits(t, s, where, task, 1, 10, 15)
		extras(t, s, where, task, 20)
	}
}

// TestAllCores: each task waits for one section of each other core, however many stand there.
func TestAllCores(t *testing.T) {
	for cores := 1; cores <= api.MaxCores; cores++ {
		s := system(cores, 1)
		var where []int
		for task := range api.MaxTasks {
			s.Tasks = append(s.Tasks, row(0, 1, 1<<(task/8)))
			where = append(where, task%cores)
		}
		all := 0
		for core := range cores {
			all += Longest(s, where, core, 0) + 1
		}
		for task, core := range where {
			wait := all - Longest(s, where, core, 0) - 1
			waits(t, s, where, task, 0, wait, wait+1)
			waits(t, s, where, task, 1, wait, wait+1<<(task/8))
			extras(t, s, where, task, 2*wait)
		}
		spelt(t, s, where)
		if cores == api.MaxCores {
			waits(t, s, where, 0, 0, 7*5, 36)
		}
	}
}

// TestExtraOfSeveralSections: each of them waits, with the same resource as often as with different ones.
func TestExtraOfSeveralSections(t *testing.T) {
	other := with(of(0, 0, 10), of(10, 1, 20), of(30, 2, 40), of(70, 3, 80))
	for _, c := range []struct {
		resources []int
		want      int
	}{
		{nil, 0},
		{[]int{0}, 11},
		{[]int{3}, 81},
		{[]int{0, 0}, 22},
		{[]int{0, 1}, 32},
		{[]int{2, 2, 2}, 123},
		{[]int{3, 2, 1, 0}, 154},
		{[]int{3, 3, 3, 3}, 324},
		{[]int{4, 4, 4, 4}, 0},
		{[]int{4, 0, 4, 1}, 32},
	} {
		task := with()
		for i, res := range c.resources {
			task.Sections = append(task.Sections, of(i, res, 1))
		}
		s := system(2, 5, task, other)
		extras(t, s, []int{0, 1}, 0, c.want)
		extras(t, s, []int{1, 1}, 0, 0)
		extras(t, s, []int{-1, 1}, 0, c.want)
		spelt(t, s, []int{0, 1})
	}
}

// TestNoSuchTaskOrSection: they wait for nothing, hold nothing.
func TestNoSuchTaskOrSection(t *testing.T) {
	s, where := mixed()
	for _, n := range append([]int{6, 7, 8, -6}, noNumbers...) {
		for section := -1; section <= api.MaxSections; section++ {
			nothing(t, s, where, n, n, n, section)
		}
		for task := range s.Tasks {
			waits(t, s, where, task, n, 0, 0)
		}
		for _, m := range noNumbers {
			nothing(t, s, where, n, m, n, m)
		}
	}
	for task, known := range s.Tasks {
		for section := len(known.Sections); section <= 5; section++ {
			waits(t, s, where, task, section, 0, 0)
		}
	}
}

// TestGreatestNumbers: the sums are no greater than 64 bits hold, and just what they are.
func TestGreatestNumbers(t *testing.T) {
	s := greatest()
	var where []int
	for task := range s.Tasks {
		where = append(where, task%8-task/23) // the last one is on core 6
	}
	where[22] = -1
	const each = maxTime - 2
	waits(t, s, where, 0, 0, 7*each, 7*each+maxTime-3)
	waits(t, s, where, 0, 3, 7*each, 7*each+1)
	extras(t, s, where, 0, 28*each)
	waits(t, s, where, 22, 0, 8*each, 8*each+maxTime-3)
	extras(t, s, where, 22, 32*each)
	spelt(t, s, where)
	for i := range s.Tasks {
		s.Tasks[i].Sections = []api.Section{of(0, 0, maxTime)}
	}
	longests(t, s, where, 6, 0, maxTime)
	waits(t, s, where, 22, 0, 8*(maxTime+1), 9*maxTime+8)
	extras(t, s, where, 23, 7*(maxTime+1))
	spelt(t, s, where)
}

// TestSystemsThatAreNotValid: for each condition of chapter 8, nothing is answered, and with the condition met again all is.
func TestSystemsThatAreNotValid(t *testing.T) {
	for name, spoil := range spoils() {
		s, where := mixed()
		spoil(&s)
		if valid.Right(s) {
			t.Fatalf("still valid: %s", name)
		}
		for core := -1; core <= 3; core++ {
			for res := -1; res <= 4; res++ {
				longests(t, s, where, core, res, 0)
			}
		}
		for task := -1; task <= 6; task++ {
			for section := -1; section <= 5; section++ {
				nothing(t, s, where, 0, 0, task, section)
			}
		}
		s, where = mixed()
		waits(t, s, where, 0, 0, 14, 17)
	}
}

// spoils returns what makes a system invalid, by the conditions of chapter 8.
func spoils() map[string]func(s *api.System) {
	return map[string]func(s *api.System){
		"no core":             func(s *api.System) { s.Cores = 0 },
		"a core too many":     func(s *api.System) { s.Cores = api.MaxCores + 1 },
		"most cores":          func(s *api.System) { s.Cores = most },
		"least cores":         func(s *api.System) { s.Cores = least },
		"no policy":           func(s *api.System) { s.Policy = 0 },
		"another policy":      func(s *api.System) { s.Policy = 3 },
		"no protocol":         func(s *api.System) { s.Protocol = 0 },
		"another protocol":    func(s *api.System) { s.Protocol = 3 },
		"Edf with Mrsp":       func(s *api.System) { s.Policy, s.Protocol = api.Edf, api.Mrsp },
		"least Release":       func(s *api.System) { s.Release = least },
		"great Release":       func(s *api.System) { s.Release = api.MaxCost + 1 },
		"negative Switch":     func(s *api.System) { s.Switch = -1 },
		"great Switch":        func(s *api.System) { s.Switch = api.MaxCost + 1 },
		"negative Finish":     func(s *api.System) { s.Finish = -1 },
		"most Finish":         func(s *api.System) { s.Finish = most },
		"no Latency":          func(s *api.System) { s.Latency = 0 },
		"great Latency":       func(s *api.System) { s.Latency = api.MaxLatency + 1 },
		"negative Resources":  func(s *api.System) { s.Resources = -1 },
		"great Resources":     func(s *api.System) { s.Resources = api.MaxRes + 1 },
		"few Resources":       func(s *api.System) { s.Resources = 3 },
		"no task":             func(s *api.System) { s.Tasks = nil },
		"tasks of length 0":   func(s *api.System) { s.Tasks = s.Tasks[:0] },
		"a task too many":     func(s *api.System) { s.Tasks = append(s.Tasks, slices.Repeat([]api.Task{with()}, 19)...) },
		"no Period":           func(s *api.System) { s.Tasks[1].Period = 0 },
		"great Period":        func(s *api.System) { s.Tasks[1].Period = maxTime + 1 },
		"no Deadline":         func(s *api.System) { s.Tasks[5].Deadline = 0 },
		"great Deadline":      func(s *api.System) { s.Tasks[5].Deadline = 1001 },
		"no Wcet":             func(s *api.System) { s.Tasks[1].Wcet = 0 },
		"great Wcet":          func(s *api.System) { s.Tasks[0].Wcet = 901 },
		"a section too many":  func(s *api.System) { s.Tasks[3].Sections = append(s.Tasks[3].Sections, of(40, 0, 1)) },
		"a section at -1":     func(s *api.System) { s.Tasks[0].Sections[0].At = -1 },
		"sections that meet":  func(s *api.System) { s.Tasks[0].Sections[1].At = 2 },
		"a section at most":   func(s *api.System) { s.Tasks[4].Sections[0].At = most },
		"no Res":              func(s *api.System) { s.Tasks[2].Sections[0].Res = -1 },
		"another Res":         func(s *api.System) { s.Tasks[2].Sections[0].Res = 4 },
		"most Res":            func(s *api.System) { s.Tasks[2].Sections[0].Res = most },
		"no Len":              func(s *api.System) { s.Tasks[4].Sections[0].Len = 0 },
		"least Len":           func(s *api.System) { s.Tasks[4].Sections[0].Len = least },
		"most Len":            func(s *api.System) { s.Tasks[4].Sections[0].Len = most },
		"an end past the end": func(s *api.System) { s.Tasks[5].Sections[0].Len = 801 },
	}
}

// TestEveryNumberExchanged: at each place of a system, and of where, by the least and the greatest and those about 0.
func TestEveryNumberExchanged(t *testing.T) {
	base, where := mixed()
	count := len(places(&base))
	for place := range count {
		for _, n := range []int{least, least + 1, -1, 0, 1, 2, 3, 4, 8, 9, 50, 51, 700, 800, 801, maxTime, maxTime + 1, 1 << 62, most - 1, most} {
			s := plain(base)
			*places(&s)[place] = n
			spelt(t, s, where)
		}
	}
	for place := range where {
		for _, n := range append([]int{0, 1, 2, 3}, noNumbers...) {
			other := slices.Clone(where)
			other[place] = n
			spelt(t, base, other)
		}
	}
}

// places returns where the numbers of s stand.
func places(s *api.System) []*int {
	l := []*int{&s.Cores, &s.Policy, &s.Protocol, &s.Release, &s.Switch, &s.Finish, &s.Latency, &s.Resources}
	for i := range s.Tasks {
		task := &s.Tasks[i]
		l = append(l, &task.Period, &task.Deadline, &task.Wcet)
		for j := range task.Sections {
			l = append(l, &task.Sections[j].At, &task.Sections[j].Res, &task.Sections[j].Len)
		}
	}
	return l
}

// TestEverySmallSystem: three tasks of some kinds, on two cores and on none, in every way.
func TestEverySmallSystem(t *testing.T) {
	kinds := []api.Task{with(), row(0, 1), row(0, 3), row(1, 2), with(of(0, 0, 2), of(2, 1, 5)), row(0, 1, 4)}
	cores := []int{-1, 0, 1, 2}
	for kind := range len(kinds) * len(kinds) * len(kinds) {
		s := system(2, 2, kinds[kind%6], kinds[kind/6%6], kinds[kind/36])
		for way := range 64 {
			where := []int{cores[way%4], cores[way/4%4], cores[way/16]}
			spelt(t, s, where)
			if way%4 == 0 {
				spelt(t, s, where[1:])
			}
		}
	}
}

// drawn returns a valid system, and where its tasks are, now and then on no core.
func drawn(number func(n int) int) (api.System, []int) {
	s := system(1+number(api.MaxCores), 1+number(api.MaxRes))
	s.Protocol, s.Release, s.Switch, s.Finish = 1+number(2), number(51), number(51), number(51)
	odd := []int{-1, s.Cores, api.MaxCores, least, most, 1 << 32, 1<<32 + 1}
	var where []int
	for range 1 + number(api.MaxTasks) {
		wcet := 1 + number(1<<(1+number(30)))
		task, end := api.Task{Period: wcet + number(9), Deadline: wcet, Wcet: wcet}, 0
		for range number(api.MaxSections + 1) {
			if end < wcet {
				at := end + number(wcet-end)
				end = at + 1 + number(wcet-at)
				task.Sections = append(task.Sections, of(at, number(s.Resources), end-at))
			}
		}
		s.Tasks = append(s.Tasks, task)
		core := number(s.Cores)
		if number(10) == 0 {
			core = odd[number(len(odd))]
		}
		where = append(where, core)
	}
	switch number(8) {
	case 0:
		where = where[:number(len(where))]
	case 1:
		where = append(where, number(s.Cores), -1, number(s.Cores))
	}
	return s, where
}

func TestSystemsInAFixedOrder(t *testing.T) {
	number := source()
	for range 400 {
		s, where := drawn(number)
		if !valid.Right(s) {
			t.Fatalf("not valid: %v", s)
		}
		spelt(t, s, where)
	}
}

// TestWaitGrowsWithTheOthers: a longer section of another core, or a task more, takes nothing from what is waited; what stands on the own core changes nothing.
func TestWaitGrowsWithTheOthers(t *testing.T) {
	number := source()
	tried := 0
	for range 400 {
		s, where := drawn(number)
		task := number(len(s.Tasks))
		if len(s.Tasks) == api.MaxTasks || task >= len(where) || where[task] < 0 || where[task] >= s.Cores {
			continue
		}
		where = append(where, same(len(s.Tasks), -1)...)[:len(s.Tasks)] // so that the task more has the element behind them
		for section, c := range s.Tasks[task].Sections {
			before := Wait(s, where, task, section)
			for core := -1; core <= s.Cores; core++ {
				more := plain(s)
				more.Tasks = append(more.Tasks, row(c.Res, 1+number(700)))
				wait := Wait(more, append(slices.Clone(where), core), task, section)
				own := core == where[task] || core == -1 || core == s.Cores
				if own && wait != before || wait < before {
					t.Fatalf("Wait(%v, %v, %d, %d) was %d, and is %d with one more on core %d", s, where, task, section, before, wait, core)
				}
				tried++
			}
		}
	}
	if tried < 500 {
		t.Errorf("only %d tried", tried)
	}
}

// TestOrderOfTasksDoesNotCount: with the tasks round about, and where with them, all is as before.
func TestOrderOfTasksDoesNotCount(t *testing.T) {
	s, where := mixed()
	n := len(where)
	for by := range n {
		round := plain(s)
		round.Tasks = append(round.Tasks[by:], round.Tasks[:by]...)
		there := append(slices.Clone(where[by:]), where[:by]...)
		for core := range s.Cores {
			for res := range s.Resources {
				longests(t, round, there, core, res, Longest(s, where, core, res))
			}
		}
		for task := range n {
			extras(t, round, there, task, Extra(s, where, (task+by)%n))
			uses(t, round, task, Uses(s, (task+by)%n))
		}
	}
}

// TestCostsDoNotCount: nor the policy, the protocol, the latency and the times of the tasks.
func TestCostsDoNotCount(t *testing.T) {
	s, where := mixed()
	other := plain(s)
	other.Protocol, other.Release, other.Switch, other.Finish, other.Latency = api.Mrsp, 50, 49, 48, 50
	edf := plain(s)
	edf.Policy = api.Edf
	for i := range edf.Tasks {
		edf.Tasks[i].Period, edf.Tasks[i].Deadline, edf.Tasks[i].Wcet = maxTime, maxTime-i, 900+i
		for j := range edf.Tasks[i].Sections {
			edf.Tasks[i].Sections[j].At += 50
		}
	}
	for _, u := range []api.System{other, edf} {
		for task := range s.Tasks {
			extras(t, u, where, task, Extra(s, where, task))
			for section := range s.Tasks[task].Sections {
				waits(t, u, where, task, section, Wait(s, where, task, section), Hold(s, where, task, section))
			}
		}
		spelt(t, u, where)
	}
}

// TestArgumentsAreNotChanged: nor what stands behind their lists' lengths, which is not looked at.
func TestArgumentsAreNotChanged(t *testing.T) {
	whole, all := mixed()
	whole.Tasks[3].Sections[3] = of(least, -7, most)
	whole.Tasks[5].Deadline = -5
	s, where := plain(whole), slices.Clone(all)
	s.Tasks[3].Sections = s.Tasks[3].Sections[:3]
	s.Tasks = s.Tasks[:5]
	spelt(t, s, where[:4])
	waits(t, s, where[:4], 3, 2, 8, 12)
	s.Cores = 0
	nothing(t, s, where[:4], 1, 0, 0, 0)
	s.Cores = 3
	s.Tasks[3].Sections = s.Tasks[3].Sections[:4]
	s.Tasks = s.Tasks[:6]
	if !reflect.DeepEqual(s, whole) || !slices.Equal(where, all) {
		t.Errorf("arguments were changed: %v, %v, want %v, %v", s, where, whole, all)
	}
}

// TestCallsAreApart: what a call answers does not hang on those before it, also if they were given the same memory.
func TestCallsAreApart(t *testing.T) {
	s, where := mixed()
	for range 3 {
		waits(t, s, where, 0, 1, 16, 23)
		where[4] = 0
		waits(t, s, where, 0, 1, 6, 13)
		where[4] = 2
		s.Tasks[4].Sections[0].Len = 100
		waits(t, s, where, 0, 1, 107, 114)
		longests(t, s, where, 2, 1, 100)
		s.Tasks[4].Sections[0].Len = 0
		nothing(t, s, where, 2, 1, 0, 1)
		s.Tasks[4].Sections[0].Len = 9
		extras(t, s, where, 0, 44)
	}
}

// Ways

// sources returns the files of the package that are no tests.
func sources(t *testing.T) map[string]*ast.File {
	t.Helper()
	names, err := filepath.Glob("*.go")
	if err != nil || len(names) == 0 {
		t.Fatal(names, err)
	}
	files := map[string]*ast.File{}
	for _, name := range names {
		if strings.HasSuffix(name, "_test.go") {
			continue
		}
		file, err := parser.ParseFile(token.NewFileSet(), name, nil, 0)
		if err != nil {
			t.Fatal(err)
		}
		files[name] = file
	}
	return files
}

// TestImports: the chapter lets the layer import valid and api only.
func TestImports(t *testing.T) {
	for name, file := range sources(t) {
		for _, i := range file.Imports {
			if path := i.Path.Value; path != `"tourbillon/api"` && path != `"tourbillon/valid"` {
				t.Errorf("%s imports %s", name, path)
			}
		}
	}
}

// TestSectionsAreFoundInAMap: by a struct of two numbers.
func TestSectionsAreFoundInAMap(t *testing.T) {
	structs, keys := map[string]bool{}, []string{}
	for _, file := range sources(t) {
		ast.Inspect(file, func(n ast.Node) bool {
			switch x := n.(type) {
			case *ast.TypeSpec:
				if s, ok := x.Type.(*ast.StructType); ok && s.Fields.NumFields() == 2 {
					structs[x.Name.Name] = true
				}
			case *ast.MapType:
				if key, ok := x.Key.(*ast.Ident); ok {
					keys = append(keys, key.Name)
				}
			}
			return true
		})
	}
	if !slices.ContainsFunc(keys, func(key string) bool { return structs[key] }) {
		t.Errorf("maps by %v, structs of two %v", keys, structs)
	}
}
