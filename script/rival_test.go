package script

import (
	"math/big"
	"reflect"
	"slices"
	"testing"

	"tourbillon/api"
)

const (
	most    = 1<<63 - 1
	least   = -1 << 63
	maxTime = 1 << 40
)

// extremes are far away from all bounds of the chapter; the lower bits of some of them are those of numbers that are not.
var extremes = []int{least, least + 1, -maxTime, -1<<32 + 1, -1 << 31, 1 << 31, 1 << 32, 1<<32 + 1, maxTime + 1<<32, 1 << 53, 1 << 62, most - 1, most}

// task returns one whose Deadline is its Period.
func task(period, wcet int) api.Task {
	return api.Task{Period: period, Deadline: period, Wcet: wcet}
}

// with returns a system of two cores, a Latency of 2 and these tasks.
func with(tasks ...api.Task) api.System {
	return api.System{Cores: 2, Policy: api.Fixed, Protocol: api.Msrp, Latency: 2, Tasks: tasks}
}

// many returns a system of so many cores, with a task of 10, 10, 3.
func many(cores int) api.System {
	s := with(task(10, 3))
	s.Cores = cores
	return s
}

// of returns a release.
func of(task, at, demand int) api.Release {
	return api.Release{Task: task, At: at, Demand: demand}
}

// script returns one of 100 ticks, with these releases.
func script(releases ...api.Release) api.Script {
	return api.Script{Ticks: 100, Releases: releases}
}

// pair returns a system of two tasks that differ in all numbers.
func pair() api.System { return with(task(10, 3), task(7, 1)) }

// busy returns an admissible script for pair, in which nothing could be closer or more.
func busy() api.Script {
	return api.Script{
		Ticks:     20,
		Releases:  []api.Release{of(1, 0, 1), of(0, 2, 3), of(1, 7, 1), of(0, 12, 3), of(1, 14, 1), of(0, 22, 2)},
		Orders:    [][]int{{1, 0}, {}, {0, 5, 1}},
		Latencies: []int{2, 1},
	}
}

// sectioned returns a system with sections and costs, for Edf.
func sectioned() api.System {
	return api.System{
		Cores: 3, Policy: api.Edf, Protocol: api.Msrp, Release: 1, Switch: 2, Finish: 3, Latency: 50, Resources: 2,
		Tasks: []api.Task{
			{Period: 100, Deadline: 90, Wcet: 40, Sections: []api.Section{{At: 1, Res: 0, Len: 5}, {At: 6, Res: 1, Len: 34}}},
			{Period: 30, Deadline: 20, Wcet: 10},
			{Period: maxTime, Deadline: maxTime, Wcet: maxTime, Sections: []api.Section{{At: 0, Res: 1, Len: 1}}},
		},
	}
}

// spread returns an admissible script for sectioned, some of whose releases are behind its end.
func spread() api.Script {
	return api.Script{
		Ticks:     api.MaxRun,
		Releases:  []api.Release{of(2, 0, maxTime), of(0, 0, 40), of(1, 30, 10), of(1, 60, 9), of(0, 100, 1), of(2, maxTime, 5), of(1, most, 10), of(0, most, 40)},
		Orders:    [][]int{{2}, {-1, 9, 1}},
		Latencies: []int{1, 50, 25},
	}
}

// wrongs are systems that are not valid, each by another condition.
func wrongs() []api.System {
	var l []api.System
	for _, spoil := range []func(s *api.System){
		func(s *api.System) { *s = api.System{} },
		func(s *api.System) { s.Cores = 0 },
		func(s *api.System) { s.Cores = 9 },
		func(s *api.System) { s.Policy = 3 },
		func(s *api.System) { s.Policy, s.Protocol = api.Edf, api.Mrsp },
		func(s *api.System) { s.Protocol = 0 },
		func(s *api.System) { s.Release = -1 },
		func(s *api.System) { s.Switch = 51 },
		func(s *api.System) { s.Finish = least },
		func(s *api.System) { s.Latency = 0 },
		func(s *api.System) { s.Latency = 51 },
		func(s *api.System) { s.Resources = 9 },
		func(s *api.System) { s.Tasks = nil },
		func(s *api.System) { s.Tasks = slices.Repeat(s.Tasks, 13) },
		func(s *api.System) { s.Tasks[1].Period = maxTime + 1 },
		func(s *api.System) { s.Tasks[1].Deadline = 8 },
		func(s *api.System) { s.Tasks[1].Deadline = 0 },
		func(s *api.System) { s.Tasks[0].Wcet = 11 },
		func(s *api.System) { s.Tasks[0].Sections = []api.Section{{At: 0, Res: 0, Len: 1}} },
	} {
		s := pair()
		spoil(&s)
		l = append(l, s)
	}
	return l
}

// isValid is chapter 8 in other words, as far as the tests of this layer have such systems.
func isValid(s api.System) bool {
	good := s.Cores > 0 && s.Cores < 9 && len(s.Tasks) > 0 && len(s.Tasks) < 25
	good = good && s.Latency > 0 && s.Latency < 51 && s.Resources >= 0 && s.Resources < 9
	good = good && (s.Protocol == 1 && (s.Policy == 1 || s.Policy == 2) || s.Protocol == 2 && s.Policy == 1)
	for _, cost := range []int{s.Release, s.Switch, s.Finish} {
		good = good && cost >= 0 && cost < 51
	}
	for _, t := range s.Tasks {
		good = good && slices.IsSorted([]int{1, t.Wcet, t.Deadline, t.Period, maxTime}) && len(t.Sections) < 5
		end := 0
		for _, c := range t.Sections {
			good = good && c.At >= end && c.Len > 0 && c.Res >= 0 && c.Res < s.Resources
			end = c.At + c.Len
		}
		good = good && end <= t.Wcet
	}
	return good
}

// judged is Right and Admissible in other words: all conditions are asked, and every two releases are held against each other.
func judged(s api.System, x api.Script) (right, admissible bool) {
	right = isValid(s) && x.Ticks >= 0 && x.Ticks < 20001 && len(x.Releases) < 2001
	right = right && slices.IsSortedFunc(x.Releases, func(a, b api.Release) int { return big.NewInt(int64(a.At)).Cmp(big.NewInt(int64(b.At))) })
	admissible = true
	for i, r := range x.Releases {
		right = right && r.At > -1 && r.Task > -1 && r.Task < len(s.Tasks) && r.Demand > 0 && r.Demand < maxTime+1
		if !right {
			return false, false
		}
		admissible = admissible && r.Demand < s.Tasks[r.Task].Wcet+1
		for _, other := range x.Releases[:i] {
			gap := new(big.Int).Sub(big.NewInt(int64(r.At)), big.NewInt(int64(other.At)))
			admissible = admissible && (r.Task != other.Task || gap.CmpAbs(big.NewInt(int64(s.Tasks[r.Task].Period))) >= 0)
		}
	}
	for _, n := range x.Latencies {
		admissible = admissible && n > 0 && n < s.Latency+1
	}
	return right, right && admissible
}

// place returns the place of the element that has its turn among n; -1 if none has.
func place(n, tick int) int {
	if n == 0 || tick < 0 {
		return -1
	}
	return int(new(big.Int).Mod(big.NewInt(int64(tick)), big.NewInt(int64(n))).Int64())
}

// ordered is Order in other words: the cores are taken out of those that are left, first as the list names them.
func ordered(s api.System, x api.Script, tick int) []int {
	var order, left []int
	if s.Cores < 1 || s.Cores > 8 {
		return nil
	}
	for core := range s.Cores {
		left = append(left, core)
	}
	if at := place(len(x.Orders), tick); at >= 0 {
		for _, core := range x.Orders[at] {
			if i := slices.Index(left, core); i >= 0 {
				left = slices.Delete(left, i, i+1)
				order = append(order, core)
			}
		}
	}
	return append(order, left...)
}

// late is Latency in other words.
func late(x api.Script, tick int) int {
	at := place(len(x.Latencies), tick)
	switch {
	case at < 0 || x.Latencies[at] < 1:
		return 1
	case x.Latencies[at] > 50:
		return 50
	}
	return x.Latencies[at]
}

// now is At in other words.
func now(x api.Script, tick int) []api.Release {
	return slices.DeleteFunc(slices.Clone(x.Releases), func(r api.Release) bool { return r.At != tick })
}

// judges holds Right and Admissible against what is wanted, and against the other words.
func judges(t *testing.T, s api.System, x api.Script, right, admissible bool) {
	t.Helper()
	spelt(t, s, x)
	if Right(s, x) != right || Admissible(s, x) != admissible {
		t.Fatalf("Right, Admissible of %v, %v = %v, %v, want %v, %v", s, x, Right(s, x), Admissible(s, x), right, admissible)
	}
}

// spelt holds Right and Admissible against the other words, and returns what both are.
func spelt(t *testing.T, s api.System, x api.Script) (right, admissible bool) {
	t.Helper()
	right, admissible = judged(s, x)
	if Right(s, x) != right || Admissible(s, x) != admissible {
		t.Fatalf("Right, Admissible of %v, %v = %v, %v, and in other words %v, %v", s, x, Right(s, x), Admissible(s, x), right, admissible)
	}
	return right, admissible
}

// answers holds Order, Latency and At for these ticks against the other words.
func answers(t *testing.T, s api.System, x api.Script, ticks ...int) {
	t.Helper()
	for _, tick := range ticks {
		if got, want := Order(s, x, tick), ordered(s, x, tick); !slices.Equal(got, want) {
			t.Fatalf("Order(%v, %v, %d) = %v, want %v", s, x, tick, got, want)
		}
		if got, want := Latency(s, x, tick), late(x, tick); got != want {
			t.Fatalf("Latency(%v, %v, %d) = %d, want %d", s, x, tick, got, want)
		}
		if got, want := At(x, tick), now(x, tick); !slices.Equal(got, want) {
			t.Fatalf("At(%v, %d) = %v, want %v", x, tick, got, want)
		}
	}
}

// plainSystem returns a copy of s that shares nothing with it.
func plainSystem(s api.System) api.System {
	s.Tasks = append([]api.Task{}, s.Tasks...)
	for i := range s.Tasks {
		s.Tasks[i].Sections = append([]api.Section{}, s.Tasks[i].Sections...)
	}
	return s
}

// plain returns a copy of x that shares nothing with it, and of which all lists are there.
func plain(x api.Script) api.Script {
	x.Releases = append([]api.Release{}, x.Releases...)
	x.Orders = append([][]int{}, x.Orders...)
	for i := range x.Orders {
		x.Orders[i] = append([]int{}, x.Orders[i]...)
	}
	x.Latencies = append([]int{}, x.Latencies...)
	return x
}

// same reports whether two values are equal by all their parts.
func same[V any](a, b V) bool { return reflect.DeepEqual(a, b) }

// source returns a function that returns a number less than n, in a fixed order.
func source() func(n int) int {
	state := uint64(1)
	return func(n int) int {
		state = state*6364136223846793005 + 1442695040888963407
		return int((state >> 33) % uint64(n))
	}
}
