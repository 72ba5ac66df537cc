package script

import (
	"go/ast"
	"go/parser"
	"go/token"
	"path/filepath"
	"slices"
	"strings"
	"testing"

	"tourbillon/api"
)

// P20.1

// TestScriptsByHand: that are admissible, and that are valid and not admissible.
func TestScriptsByHand(t *testing.T) {
	judges(t, pair(), busy(), true, true)
	judges(t, sectioned(), spread(), true, true)
	judges(t, pair(), api.Script{}, true, true)
	judges(t, pair(), script(), true, true)
	judges(t, pair(), script(of(0, 5, 3)), true, true)
	judges(t, pair(), script(of(0, 5, 4)), true, false)
	judges(t, pair(), script(of(0, 5, 1), of(0, 15, 1)), true, true)
	judges(t, pair(), script(of(0, 5, 1), of(0, 14, 1)), true, false)
	judges(t, pair(), script(of(0, 5, 1), of(0, 5, 1)), true, false)
	judges(t, pair(), script(of(0, 5, 1), of(1, 5, 1)), true, true)
	judges(t, pair(), script(of(0, 5, 1), of(1, 4, 1)), false, false)
}

// TestSystemsThatAreNotValid: whatever the script, and also if it does not speak of what is wrong.
func TestSystemsThatAreNotValid(t *testing.T) {
	for i, s := range wrongs() {
		if isValid(s) {
			t.Fatalf("system %d is valid: %v", i, s)
		}
		for _, x := range []api.Script{{}, script(), script(of(0, 5, 1)), busy()} {
			judges(t, s, x, false, false)
		}
	}
}

// TestTicks: from 0 to MaxRun, wherever the releases are.
func TestTicks(t *testing.T) {
	for _, x := range []api.Script{{}, busy()} {
		for _, n := range []int{0, 1, 2, 22, 23, 19999, 20000} {
			x.Ticks = n
			judges(t, pair(), x, true, true)
		}
		for _, n := range append([]int{-1, -2, -20000, 20001, 20002, 40000, 65536, maxTime}, extremes...) {
			x.Ticks = n
			judges(t, pair(), x, false, false)
		}
	}
}

// TestHowManyReleases: at most MaxEvents, those behind the end of the run with them.
func TestHowManyReleases(t *testing.T) {
	x := script()
	for i := range 2000 {
		x.Releases = append(x.Releases, of(i%2, 10*i, 1))
		if right, admissible := Right(pair(), x), Admissible(pair(), x); !right || !admissible {
			t.Fatalf("%d releases: %v, %v", i+1, right, admissible)
		}
	}
	judges(t, pair(), x, true, true)
	for _, n := range []int{1, 2, 48, 3000, 100000} {
		y := x
		y.Releases = slices.Concat(x.Releases, slices.Repeat([]api.Release{of(0, 20000, 1)}, n))
		judges(t, pair(), y, false, false)
	}
	x.Releases = slices.Repeat([]api.Release{of(0, 0, 1)}, 2000)
	judges(t, pair(), x, true, false)
	x.Releases = append(x.Releases, of(0, 0, 1))
	judges(t, pair(), x, false, false)
}

// TestEmptyLists: may be nil or empty, and are admissible.
func TestEmptyLists(t *testing.T) {
	for _, x := range []api.Script{
		{Releases: []api.Release{}, Orders: [][]int{}, Latencies: []int{}},
		{Releases: busy().Releases[:0], Orders: busy().Orders[:0], Latencies: busy().Latencies[:0]},
		{Orders: [][]int{nil, {}}},
		{Ticks: 20000, Latencies: []int{}},
	} {
		judges(t, pair(), x, true, true)
	}
}

// TestAtOfEveryRelease: at least 0, and not less than that of the one before it, at each place of a script.
func TestAtOfEveryRelease(t *testing.T) {
	for _, c := range []struct {
		right bool
		ats   []int
	}{
		{true, []int{0}}, {true, []int{1}}, {true, []int{most}}, {false, []int{-1}}, {false, []int{least}},
		{true, []int{0, 0, 0}}, {true, []int{0, 1, 1}}, {true, []int{5, 5, most}}, {true, []int{most, most}},
		{false, []int{-1, 0}}, {false, []int{0, -1}}, {false, []int{-2, -1, 0}}, {false, []int{least, most}}, {false, []int{0, least}},
		{false, []int{1, 0}}, {false, []int{5, 4, 6}}, {false, []int{5, 6, 5}}, {false, []int{4, 6, 5}}, {false, []int{most, 0}}, {false, []int{most, most - 1}},
		{true, []int{maxTime, maxTime + 1, 1 << 62}}, {false, []int{maxTime, 1 << 62, maxTime}}, {false, []int{1 << 32, 1}},
	} {
		for _, tasks := range []int{1, 2} {
			x := script()
			for i, at := range c.ats {
				x.Releases = append(x.Releases, of(i%tasks, at, 1))
			}
			if right, _ := spelt(t, pair(), x); right != c.right {
				t.Errorf("Right(%v) = %v", x, right)
			}
		}
	}
}

// TestTaskOfEveryRelease: one of those that the system has, however many these are.
func TestTaskOfEveryRelease(t *testing.T) {
	for n := 1; n <= 24; n++ {
		s := with(slices.Repeat([]api.Task{task(10, 3)}, n)...)
		for i := range n {
			judges(t, s, script(of(i, 3, 3)), true, true)
			judges(t, s, script(of(0, 0, 1), of(n-1, 10, 1), of(i, 20, 1)), true, true)
		}
		for _, i := range append([]int{-1, -2, -n, n, n + 1, 24, 25, 1 << 8, maxTime}, extremes...) {
			judges(t, s, script(of(i, 3, 3)), false, false)
			judges(t, s, script(of(0, 0, 1), of(i, 10, 1), of(0, 20, 1)), false, false)
			judges(t, s, script(of(0, 0, 1), of(0, 10, 1), of(i, 20, 1)), false, false)
		}
	}
}

// TestDemandOfEveryRelease: from 1 to MaxTime, and to the Wcet if it is to be admissible.
func TestDemandOfEveryRelease(t *testing.T) {
	for _, wcet := range []int{1, 2, 3, 1000, maxTime - 1, maxTime} {
		s := with(task(maxTime, 1), task(maxTime, wcet))
		for _, n := range []int{1, 2, 3, 4, 999, 1000, 1001, 1 << 32, maxTime - 2, maxTime - 1, maxTime} {
			judges(t, s, script(of(1, 3, n)), true, n <= wcet)
			judges(t, s, script(of(0, 3, 1), of(1, 3, n)), true, n <= wcet)
		}
		for _, n := range append([]int{0, -1, -2, -wcet, maxTime + 1, maxTime + 2}, extremes...) {
			if n >= 1 && n <= maxTime {
				continue
			}
			judges(t, s, script(of(1, 3, n)), false, false)
			judges(t, s, script(of(0, 3, 1), of(1, 3, n)), false, false)
			judges(t, s, script(of(1, 3, n), of(0, 3, 1)), false, false)
		}
	}
	// Each task has a Wcet of its own.
	judges(t, pair(), script(of(0, 0, 3), of(1, 0, 1)), true, true)
	judges(t, pair(), script(of(0, 0, 1), of(1, 0, 3)), true, false)
	// The Deadline is another number.
	judges(t, with(api.Task{Period: 30, Deadline: 20, Wcet: 10}), script(of(0, 0, 11)), true, false)
}

// TestPeriods: from one release of a task to the next one, whenever the first comes.
func TestPeriods(t *testing.T) {
	for _, period := range []int{1, 2, 10, 1 << 31, maxTime - 1, maxTime} {
		s := with(task(period, 1), task(1, 1))
		for _, first := range []int{0, 1, period - 1, period, 1 << 32, most - 3*maxTime} {
			for _, gap := range []int{0, 1, period - 1, period, period + 1, 2 * period} {
				good := gap >= period
				judges(t, s, script(of(0, first, 1), of(0, first+gap, 1)), true, good)
				judges(t, s, script(of(0, first, 1), of(1, first+gap, 1)), true, true)
				judges(t, s, script(of(0, first, 1), of(1, first, 1), of(0, first+gap, 1)), true, good)
				judges(t, s, script(of(1, first, 1), of(0, first, 1), of(1, first+1+gap, 1), of(0, first+1+gap, 1)), true, gap+1 >= period)
				judges(t, s, script(of(0, first, 1), of(0, first+period, 1), of(0, first+period+gap, 1)), true, good)
			}
		}
		judges(t, s, script(of(0, 0, 1), of(0, most, 1)), true, true)
		judges(t, s, script(of(0, most, 1), of(0, most, 1)), true, false)
	}
	// The Deadline is another number.
	s := with(api.Task{Period: 30, Deadline: 20, Wcet: 10})
	judges(t, s, script(of(0, 0, 1), of(0, 29, 1)), true, false)
	judges(t, s, script(of(0, 0, 1), of(0, 30, 1)), true, true)
}

// TestPeriodsOfManyTasks: each task has its own, and its own last release, which may be far ahead in the script.
func TestPeriodsOfManyTasks(t *testing.T) {
	var tasks []api.Task
	var all []api.Release
	for i := range 24 {
		tasks = append(tasks, task(100+i, 1))
		all = append(all, of(i, 5, 1))
	}
	s := with(tasks...)
	judges(t, s, script(all...), true, true)
	for i := range 24 {
		for _, gap := range []int{0, 99, 100 + i - 1, 100 + i, 200} {
			judges(t, s, script(append(slices.Clone(all), of(i, 5+gap, 1))...), true, gap >= 100+i)
		}
	}
}

// TestLatenciesOfAScript: from 1 to that of the system if the script is to be admissible, and arbitrary if it is to be valid.
func TestLatenciesOfAScript(t *testing.T) {
	for latency := 1; latency <= 50; latency++ {
		s := pair()
		s.Latency = latency
		for _, n := range append([]int{-50, -2, -1, 0, 1, 2, latency - 1, latency, latency + 1, 49, 50, 51, 52, 100, 256 + 1, maxTime}, extremes...) {
			good := n >= 1 && n <= latency
			for _, l := range [][]int{{n}, {n, 1}, {1, n}, {latency, n, 1}, slices.Repeat([]int{n}, 70), append(slices.Repeat([]int{latency}, 5000), n)} {
				x := busy()
				x.Latencies = l
				judges(t, s, x, true, good)
				x.Ticks = 0
				judges(t, s, x, true, good)
				x.Ticks = -1
				judges(t, s, x, false, false)
			}
		}
	}
}

// TestOrdersOfAScript: are arbitrary.
func TestOrdersOfAScript(t *testing.T) {
	for _, l := range [][][]int{nil, {nil}, {{0}, {1}}, {{2, 3, -1}}, {extremes, {}, extremes}, slices.Repeat([][]int{{7}}, 100000), {slices.Repeat([]int{0}, 100000)}} {
		x := busy()
		x.Orders = l
		judges(t, pair(), x, true, true)
		x.Releases[0].Demand = 2
		judges(t, pair(), x, true, false)
		x.Releases[0].Demand = 0
		judges(t, pair(), x, false, false)
	}
}

// numbers returns each number of a system and a script that Right and Admissible look at.
func numbers(s *api.System, x *api.Script) []*int {
	l := []*int{&s.Cores, &s.Policy, &s.Protocol, &s.Release, &s.Switch, &s.Finish, &s.Latency, &s.Resources, &x.Ticks}
	for i := range s.Tasks {
		l = append(l, &s.Tasks[i].Period, &s.Tasks[i].Deadline, &s.Tasks[i].Wcet)
	}
	for i := range x.Releases {
		l = append(l, &x.Releases[i].Task, &x.Releases[i].At, &x.Releases[i].Demand)
	}
	for i := range x.Latencies {
		l = append(l, &x.Latencies[i])
	}
	return l
}

// TestEveryNumberExchanged: by all small numbers, those about the bounds, and those far away.
func TestEveryNumberExchanged(t *testing.T) {
	others := slices.Concat(extremes, []int{maxTime - 1, maxTime, maxTime + 1, 19999, 20000, 20001})
	for n := -3; n <= 110; n++ {
		others = append(others, n)
	}
	found := map[[2]bool]int{}
	for _, c := range []func() (api.System, api.Script){
		func() (api.System, api.Script) { return pair(), busy() },
		func() (api.System, api.Script) { return sectioned(), spread() },
	} {
		s, x := c()
		for i := range numbers(&s, &x) {
			for _, n := range others {
				s, x := c()
				*numbers(&s, &x)[i] = n
				right, admissible := spelt(t, s, x)
				found[[2]bool{right, admissible}]++
			}
		}
	}
	if len(found) != 3 || found[[2]bool{true, false}] < 100 || found[[2]bool{true, true}] < 100 {
		t.Errorf("scripts that were right, and admissible: %v", found)
	}
}

// TestEverySmallScript: of up to four releases, of two tasks, within a few ticks.
func TestEverySmallScript(t *testing.T) {
	s := with(task(3, 2), task(2, 1))
	var kinds []api.Release
	for at := range 5 {
		for i := range 2 {
			kinds = append(kinds, of(i, at, 1))
		}
	}
	kinds = append(kinds, of(1, 3, 2), of(0, -1, 1), of(2, 3, 1))
	found := map[[2]bool]int{}
	var extend func(l []api.Release)
	extend = func(l []api.Release) {
		right, admissible := spelt(t, s, script(l...))
		found[[2]bool{right, admissible}]++
		if len(l) == 4 {
			return
		}
		for _, r := range kinds {
			extend(append(slices.Clone(l), r))
		}
	}
	extend(nil)
	if found[[2]bool{true, true}] < 50 || found[[2]bool{true, false}] < 50 || found[[2]bool{false, false}] < 50 {
		t.Errorf("scripts that were right, and admissible: %v", found)
	}
}

// drawn returns a script for s: most of them are admissible, some are valid only, and some are not even that.
func drawn(s api.System, number func(n int) int) api.Script {
	x := api.Script{Ticks: number(api.MaxRun + 1)}
	next := make([]int, len(s.Tasks))
	at := 0
	for range number(1 + number(60)) {
		i := number(len(s.Tasks))
		at = max(at, next[i]) + number(2)*number(9)
		if number(60) == 0 {
			at -= number(9)
		}
		next[i] = at + s.Tasks[i].Period
		x.Releases = append(x.Releases, of(i, at, 1+number(min(s.Tasks[i].Wcet, 1<<31))+number(80)/79))
	}
	for range number(5) {
		x.Latencies = append(x.Latencies, 1+number(s.Latency)+number(20)/19)
		var l []int
		for range number(10) {
			l = append(l, number(12)-2)
		}
		x.Orders = append(x.Orders, l)
	}
	return x
}

// TestDrawnScripts: all calls, in a fixed order of scripts.
func TestDrawnScripts(t *testing.T) {
	number := source()
	found := map[[2]bool]int{}
	for range 4000 {
		s := with()
		s.Cores, s.Latency = 1+number(8), 1+number(50)
		for range 1 + number(24) {
			period := 1 + number(1<<uint64(1+number(20)))
			s.Tasks = append(s.Tasks, task(period, 1+number(period)))
		}
		x := drawn(s, number)
		right, admissible := spelt(t, s, x)
		found[[2]bool{right, admissible}]++
		answers(t, s, x, 0, 1, number(50), number(20000), -number(50))
		for _, r := range x.Releases {
			answers(t, s, x, r.At-1, r.At, r.At+1)
		}
	}
	if found[[2]bool{true, true}] < 200 || found[[2]bool{true, false}] < 200 || found[[2]bool{false, false}] < 200 {
		t.Errorf("scripts that were right, and admissible: %v", found)
	}
}

// P20.2

func TestExamplesOfTheChapter(t *testing.T) {
	x := api.Script{Orders: [][]int{{1, 0}, {}}, Latencies: []int{3, 0, 99}}
	orders(t, pair(), x, 3, 0, 1)
	orders(t, pair(), x, 2, 1, 0)
	for tick, want := range []int{3, 1, 50} {
		latency(t, pair(), x, tick, want)
	}
}

// orders holds Order against what is wanted.
func orders(t *testing.T, s api.System, x api.Script, tick int, want ...int) {
	t.Helper()
	answers(t, s, x, tick)
	if got := Order(s, x, tick); !slices.Equal(got, want) {
		t.Errorf("Order(%v, %v, %d) = %v, want %v", s, x, tick, got, want)
	}
}

// latency holds Latency against what is wanted.
func latency(t *testing.T, s api.System, x api.Script, tick, want int) {
	t.Helper()
	answers(t, s, x, tick)
	if got := Latency(s, x, tick); got != want {
		t.Errorf("Latency(%v, %v, %d) = %d, want %d", s, x, tick, got, want)
	}
}

// at holds At against what is wanted.
func at(t *testing.T, x api.Script, tick int, want ...api.Release) {
	t.Helper()
	answers(t, pair(), x, tick)
	if got := At(x, tick); !slices.Equal(got, want) {
		t.Errorf("At(%v, %d) = %v, want %v", x, tick, got, want)
	}
}

// TestOrderGoesRound: the elements have their turns again and again, also those that are empty, and however great the tick is.
func TestOrderGoesRound(t *testing.T) {
	x := api.Script{Orders: [][]int{{3, 1}, {2, 9, 2, 0}, nil, {-1, 4, 2}, {3, 2, 1, 0}}}
	want := [][]int{{3, 1, 0, 2}, {2, 0, 1, 3}, {0, 1, 2, 3}, {2, 0, 1, 3}, {3, 2, 1, 0}}
	for tick := range 100 {
		orders(t, many(4), x, tick, want[tick%5]...)
	}
	for tick := range 5 {
		orders(t, many(4), x, 5*maxTime+tick, want[tick]...)
		orders(t, many(4), x, most-2-5+tick, want[tick]...) // most is 5 n + 2
	}
	orders(t, many(4), x, most, want[2]...)
}

// TestOrderOfNothing: without Orders, or with a tick that is negative, the cores stand in ascending order.
func TestOrderOfNothing(t *testing.T) {
	up := []int{0, 1, 2, 3, 4, 5, 6, 7}
	for n := 1; n <= 8; n++ {
		for _, tick := range append([]int{-3, -2, -1, 0, 1, 2}, extremes...) {
			orders(t, many(n), api.Script{}, tick, up[:n]...)
			orders(t, many(n), api.Script{Orders: [][]int{}}, tick, up[:n]...)
			if tick < 0 {
				orders(t, many(n), api.Script{Orders: [][]int{{1, 0}}}, tick, up[:n]...)
				orders(t, many(n), api.Script{Orders: [][]int{{7}, {6, 5}, {4}}}, tick, up[:n]...)
			}
		}
	}
}

// TestOrderOfNoCores: is empty, whatever the Orders are.
func TestOrderOfNoCores(t *testing.T) {
	for _, n := range append([]int{0, -1, -2, -8, 9, 10, 64, 256 + 1}, extremes...) {
		for _, x := range []api.Script{{}, busy(), {Orders: [][]int{{0}, {n}}}} {
			for _, tick := range []int{least, -1, 0, 1, 2, most} {
				orders(t, many(n), x, tick)
			}
		}
	}
}

// TestOrderOfOtherSystems: a system that is not valid has an order, too, if it has cores.
func TestOrderOfOtherSystems(t *testing.T) {
	for _, s := range wrongs() {
		answers(t, s, busy(), -1, 0, 1, 2, 3, most)
		s.Cores = 3
		orders(t, s, api.Script{Ticks: -1, Orders: [][]int{{2, 1}}, Releases: []api.Release{of(-1, -1, -1)}}, 7, 2, 1, 0)
	}
	orders(t, api.System{Cores: 2}, api.Script{Orders: [][]int{{1}}}, 0, 1, 0)
}

// TestLatencyOfEveryNumber: as it is from 1 to MaxLatency, and the nearest of those otherwise, whatever the system is.
func TestLatencyOfEveryNumber(t *testing.T) {
	systems := append([]api.System{pair(), sectioned()}, wrongs()...)
	for _, s := range systems {
		for n := 1; n <= 50; n++ {
			latency(t, s, api.Script{Latencies: []int{n}}, n, n)
		}
		for _, n := range append([]int{0, -1, -2, -50, 51, 52, 99, 256, 256 + 7, maxTime}, extremes...) {
			want := 1
			if n > 0 {
				want = 50
			}
			latency(t, s, api.Script{Latencies: []int{n}}, 4, want)
			latency(t, s, api.Script{Latencies: []int{7, n, 8}}, 4, want)
		}
	}
}

// TestLatencyGoesRound: the elements have their turns again and again, however great the tick is.
func TestLatencyGoesRound(t *testing.T) {
	x := api.Script{Latencies: []int{3, 0, 99, 50, 1}}
	want := []int{3, 1, 50, 50, 1}
	for tick := range 100 {
		latency(t, pair(), x, tick, want[tick%5])
	}
	latency(t, pair(), x, 5*maxTime, 3)
	latency(t, pair(), x, 5*maxTime+2, 50)
	latency(t, pair(), x, most-2, 3) // most is 5 n + 2
	latency(t, pair(), x, most, 50)
}

// TestLatencyOfNothing: without Latencies, or with a tick that is negative, it is 1.
func TestLatencyOfNothing(t *testing.T) {
	for _, tick := range append([]int{-3, -2, -1, 0, 1, 2}, extremes...) {
		latency(t, pair(), api.Script{}, tick, 1)
		latency(t, sectioned(), api.Script{Latencies: []int{}}, tick, 1)
		if tick < 0 {
			latency(t, sectioned(), api.Script{Latencies: []int{5}}, tick, 1)
			latency(t, sectioned(), api.Script{Latencies: []int{5, 60, 7}}, tick, 1)
		}
	}
}

// TestAt: the releases of a tick, as they are and in their order; nothing where there are none.
func TestAt(t *testing.T) {
	x := script(of(1, 0, 5), of(0, 0, 7), of(1, 0, 5), of(1, 4, 1), of(0, 4, 2), of(0, 9, 3))
	at(t, x, 0, of(1, 0, 5), of(0, 0, 7), of(1, 0, 5))
	at(t, x, 4, of(1, 4, 1), of(0, 4, 2))
	at(t, x, 9, of(0, 9, 3))
	for _, tick := range append([]int{-9, -4, -1, 1, 3, 5, 8, 10, 100}, extremes...) {
		at(t, x, tick)
		at(t, api.Script{}, tick)
		at(t, api.Script{Releases: []api.Release{}}, tick)
	}
	x.Ticks = 4 // also behind the end of the run
	at(t, x, 9, of(0, 9, 3))
}

// TestAtOfOtherScripts: those that are not valid have releases, too, in any order and at any ticks.
func TestAtOfOtherScripts(t *testing.T) {
	x := script(of(9, 5, 0), of(0, 2, 1), of(-1, 5, -3), of(0, -1, 1), of(0, most, 1), of(1, 5, most), of(0, least, 2), of(0, -1, 4))
	x.Ticks = -1
	at(t, x, 5, of(9, 5, 0), of(-1, 5, -3), of(1, 5, most))
	at(t, x, 2, of(0, 2, 1))
	at(t, x, -1, of(0, -1, 1), of(0, -1, 4))
	at(t, x, most, of(0, most, 1))
	at(t, x, least, of(0, least, 2))
	at(t, x, 0)
	l := slices.Repeat([]api.Release{of(0, 3, 1), of(0, 2, 1)}, 50000)
	if got := At(api.Script{Releases: l}, 3); len(got) != 50000 || got[49999] != of(0, 3, 1) {
		t.Errorf("%d releases", len(got))
	}
}

// TestEveryReleaseOnce: all ticks together have all releases of a script, in their order.
func TestEveryReleaseOnce(t *testing.T) {
	number := source()
	for range 200 {
		x := drawn(pair(), number)
		slices.SortStableFunc(x.Releases, func(a, b api.Release) int { return a.At - b.At })
		var l []api.Release
		for tick := -10; tick < 1000; tick++ {
			l = append(l, At(x, tick)...)
		}
		if !slices.Equal(l, x.Releases) {
			t.Fatalf("At of all ticks = %v, want %v", l, x.Releases)
		}
	}
}

// P2 to P5

// TestArgumentsAreNotChanged: nor what stands behind the lengths of lists, which is not looked at.
func TestArgumentsAreNotChanged(t *testing.T) {
	s, x := pair(), busy()
	s.Tasks = append(s.Tasks, api.Task{Period: -1, Wcet: most})
	x.Releases = append(x.Releases, of(-1, 2, -1))
	x.Orders = append(x.Orders, []int{7})
	x.Orders[1] = append(x.Orders[1], 1)
	x.Latencies = append(x.Latencies, most)
	givenS, givenX := plainSystem(s), plain(x)
	u, y := givenS, givenX
	u.Tasks = givenS.Tasks[:2]
	y.Releases, y.Latencies = givenX.Releases[:6], givenX.Latencies[:2]
	y.Orders = [][]int{givenX.Orders[0], givenX.Orders[1][:0], givenX.Orders[2]}
	for range 3 {
		judges(t, u, y, true, true)
		judges(t, givenS, givenX, false, false)
		judges(t, u, givenX, false, false)
		answers(t, u, y, -1, 0, 1, 2, 3, 12, most)
		at(t, y, 2, of(0, 2, 3))
		latency(t, u, y, 2, 2)
		orders(t, u, y, 1, 0, 1)
		orders(t, u, y, 3, 1, 0)
	}
	if !same(givenS, plainSystem(s)) || !same(givenX, plain(x)) {
		t.Errorf("arguments were changed: %v, %v", givenS, givenX)
	}
}

// filled writes into all the memory of a list, and returns how long it is with what is spare.
func filled[E any](l []E, e E) int {
	l = l[:cap(l)]
	for i := range l {
		l[i] = e
	}
	return len(l)
}

// TestResultsAreNewMemory: whatever is written into one, neither arguments nor other results are changed.
func TestResultsAreNewMemory(t *testing.T) {
	s := pair()
	x := api.Script{Releases: []api.Release{of(0, 4, 1), of(1, 4, 1)}, Orders: [][]int{{1, 0}, {0, 1}, {}}}
	given := plain(x)
	for tick := range 6 {
		order := ordered(s, given, tick)
		a, b := Order(s, x, tick), Order(s, x, tick)
		if filled(a, 77) < 2 || !slices.Equal(b, order) || !slices.Equal(Order(s, x, tick), order) {
			t.Errorf("orders share memory: %v, want %v", b, order)
		}
		releases := now(given, tick)
		c, d := At(x, tick), At(x, tick)
		if filled(c, of(7, 7, 7)) < len(releases) || !slices.Equal(d, releases) || !slices.Equal(At(x, tick), releases) {
			t.Errorf("releases share memory: %v, want %v", d, releases)
		}
	}
	if !same(plain(x), given) {
		t.Errorf("arguments were changed: %v, want %v", x, given)
	}
	kept := At(x, 4)
	order := Order(s, x, 0)
	x.Releases[0].Demand, x.Orders[0][0] = 99, 0
	if kept[0].Demand != 1 || order[0] != 1 {
		t.Errorf("results have changed with the arguments: %v, %v", kept, order)
	}
}

// TestCallsAreApart: what a call answers does not hang on those before it, also if they were given the same memory.
func TestCallsAreApart(t *testing.T) {
	s, x := pair(), busy()
	for range 3 {
		judges(t, s, x, true, true)
		x.Releases[3].At--
		judges(t, s, x, true, false)
		at(t, x, 12)
		at(t, x, 11, of(0, 11, 3))
		x.Releases[3].At++
		at(t, x, 12, of(0, 12, 3))
		x.Releases[0].At = 8
		judges(t, s, x, false, false)
		x.Releases[0].At = 0
		s.Tasks[1].Period = 8
		judges(t, s, x, true, false)
		s.Tasks[1].Period = 7
		s.Latency = 1
		judges(t, s, x, true, false)
		s.Latency = 2
	}
}

// Ways

// sources returns the files of the package that are no tests.
func sources(t *testing.T) map[string]*ast.File {
	t.Helper()
	names, err := filepath.Glob("*.go")
	if err != nil || len(names) == 0 {
		t.Fatal(names, err)
	}
	files := map[string]*ast.File{}
	for _, name := range names {
		if strings.HasSuffix(name, "_test.go") {
			continue
		}
		file, err := parser.ParseFile(token.NewFileSet(), name, nil, 0)
		if err != nil {
			t.Fatal(err)
		}
		files[name] = file
	}
	return files
}

// TestImports: of the project's packages, those that the chapter names.
func TestImports(t *testing.T) {
	may := []string{"iter", "tourbillon/api", "tourbillon/cores", "tourbillon/valid"}
	for name, file := range sources(t) {
		for _, i := range file.Imports {
			if !slices.Contains(may, strings.Trim(i.Path.Value, `"`)) {
				t.Errorf("%s imports %s", name, i.Path.Value)
			}
		}
	}
}

// name returns the name that is called or selected there; "" if there is none.
func name(x ast.Node) string {
	switch y := x.(type) {
	case *ast.CallExpr:
		return name(y.Fun)
	case *ast.SelectorExpr:
		return y.Sel.Name
	case *ast.Ident:
		return y.Name
	}
	return ""
}

// TestWays: releases are visited by a function that is ranged over, and nothing but that function goes through the list; the last one of each task is the value of a map.
func TestWays(t *testing.T) {
	visits, lists, maps := 0, 0, 0
	for _, file := range sources(t) {
		ast.Inspect(file, func(n ast.Node) bool {
			switch x := n.(type) {
			case *ast.RangeStmt:
				switch name(x.X) {
				case "releases":
					visits++
				case "Releases":
					lists++
				}
			case *ast.MapType:
				if name(x.Value) == "Release" {
					maps++
				}
			}
			return true
		})
	}
	if visits != 3 || lists != 1 || maps != 1 {
		t.Errorf("%d visits, %d lists ranged over, %d maps of releases", visits, lists, maps)
	}
}

// TestTheVisitStops: where the one who visits stops, and it begins anew each time.
func TestTheVisitStops(t *testing.T) {
	x := busy()
	visit := releases(x)
	for size := 1; size <= len(x.Releases); size++ {
		var l []api.Release
		for r := range visit {
			if l = append(l, r); len(l) == size {
				break
			}
		}
		if !slices.Equal(l, x.Releases[:size]) {
			t.Errorf("visited %v, want %v", l, x.Releases[:size])
		}
	}
}
