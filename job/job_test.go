package job

import (
	"go/ast"
	"go/parser"
	"go/token"
	"path/filepath"
	"slices"
	"strings"
	"testing"

	"tourbillon/api"
)

const (
	most   = 1<<63 - 1
	least  = -1 << 63
	latest = 1<<53 - 1 // the last tick
)

// extremes are no tasks, no periods and no ticks. Some of them have the lower bits of one.
var extremes = []int{most, most - 1, least, least + 1, least + 2, -1 << 31, -1 << 32, -1<<32 + 1, -1 << 53, 1 << 53, 1<<53 + 1, 1 << 62, 1<<62 + 2}

// noTicks are numbers that are none.
var noTicks = append([]int{-1, -2, -10, -latest}, extremes...)

// noTimes are numbers that are neither a Period nor a Wcet.
var noTimes = append([]int{0, -1, -2, -api.MaxTime, -api.MaxTime - 1, api.MaxTime + 1, 2 * api.MaxTime, latest}, extremes...)

// noDemands are numbers that are none.
var noDemands = []int{0, -1, -2, -3, -1 << 31, -1 << 32, -1<<32 + 1, -latest, least, least + 1, least + 3}

// someTicks are some, with the first and the last ones.
var someTicks = []int{0, 1, 2, 9, 10, 11, 1 << 31, 1<<32 - 1, api.MaxTime, latest - 1, latest}

// noTasks returns numbers that are none of n tasks.
func noTasks(n int) []int {
	return append([]int{-1, -2, -n, -n - 1, n, n + 1, 2 * n, 64, 1 << 8, 1<<8 + n - 1, 1 << 32, 1<<32 + n - 1}, extremes...)
}

// made returns a book of tasks with these Periods and Wcets by turns.
func made(t *testing.T, pairs ...int) *Book {
	t.Helper()
	b, err := New(tasksOf(pairs...))
	if err != api.OK || b == nil {
		t.Fatalf("New with %v = %v, %d", pairs, b, err)
	}
	return b
}

// tasksOf returns tasks with these Periods and Wcets by turns.
func tasksOf(pairs ...int) []api.Task {
	var tasks []api.Task
	for i := 0; i < len(pairs); i += 2 {
		tasks = append(tasks, api.Task{Period: pairs[i], Deadline: pairs[i], Wcet: pairs[i+1]})
	}
	return tasks
}

// refused holds what New returns for wrong tasks against what the chapter says.
func refused(t *testing.T, tasks []api.Task) {
	t.Helper()
	if b, err := New(tasks); b != nil || err != api.ErrArg {
		t.Errorf("New(%v) = %v, %d", tasks, b, err)
	}
}

// asks holds the answer of Ask against the one that is wanted.
func asks(t *testing.T, b *Book, task, demand int, want bool) {
	t.Helper()
	if got := b.Ask(task, demand); got != want {
		t.Errorf("Ask(%d, %d) = %v, want %v", task, demand, got, want)
	}
}

// next holds the answer of Next against the one that is wanted.
func next(t *testing.T, b *Book, task, now, want int) {
	t.Helper()
	if got := b.Next(task, now); got != want {
		t.Errorf("Next(%d, %d) = %d, want %d", task, now, got, want)
	}
}

// starts holds the answer of Start against the one that is wanted.
func starts(t *testing.T, b *Book, task, now int, want bool) {
	t.Helper()
	if got := b.Start(task, now); got != want {
		t.Errorf("Start(%d, %d) = %v, want %v", task, now, got, want)
	}
}

// is holds the state of a job against the one that is wanted.
func is(t *testing.T, b *Book, task int, want State) {
	t.Helper()
	if got := b.State(task); got != want {
		t.Errorf("State(%d) = %v, want %v", task, got, want)
	}
}

// works holds the answer of Work against the one that is wanted.
func works(t *testing.T, b *Book, task, now int, want bool) {
	t.Helper()
	if got := b.Work(task, now); got != want {
		t.Errorf("Work(%d, %d) = %v, want %v", task, now, got, want)
	}
}

// ends holds the answer of Over against the one that is wanted.
func ends(t *testing.T, b *Book, task int, want bool) {
	t.Helper()
	if got := b.Over(task); got != want {
		t.Errorf("Over(%d) = %v, want %v", task, got, want)
	}
}

// begins asks for a job and starts it.
func begins(t *testing.T, b *Book, task, demand, now int) {
	t.Helper()
	asks(t, b, task, demand, true)
	starts(t, b, task, now, true)
}

// bare holds that a task has neither an active nor a pending job.
func bare(t *testing.T, b *Book, task int) {
	t.Helper()
	is(t, b, task, State{})
	for _, now := range []int{0, 5, latest} {
		next(t, b, task, now, -1)
		starts(t, b, task, now, false)
		works(t, b, task, now, false)
	}
	ends(t, b, task, false)
}

// source returns a function that returns a number less than n, in a fixed order.
func source() func(n int) int {
	state := uint64(1)
	return func(n int) int {
		state = state*6364136223846793005 + 1442695040888963407
		return int(state >> 33 % uint64(n))
	}
}

// P11.1

func TestExamplesOfTheChapter(t *testing.T) {
	b := made(t, 10, 3)
	asks(t, b, 0, 5, true)
	asks(t, b, 0, 1, false)
	next(t, b, 0, 4, 4)
	starts(t, b, 0, 4, true)
	is(t, b, 0, State{Active: true, Arrival: 4, Demand: 3, Done: 0, Cut: true})

	works(t, b, 0, 4, true)
	works(t, b, 0, 4, false)
	works(t, b, 0, 5, true)
	ends(t, b, 0, true)
	asks(t, b, 0, 1, true)
	next(t, b, 0, 9, 14)
}

func TestNewHowMany(t *testing.T) {
	refused(t, nil)
	refused(t, []api.Task{})
	for n := 1; n <= 3*api.MaxTasks; n++ {
		tasks := slices.Repeat(tasksOf(10, 3), n)
		if n > api.MaxTasks {
			refused(t, tasks)
			continue
		}
		b, err := New(tasks)
		if err != api.OK || b == nil {
			t.Fatalf("New of %d tasks = %v, %d", n, b, err)
		}
		for task := range n {
			bare(t, b, task)
			begins(t, b, task, 1, task)
		}
		asks(t, b, n, 1, false)
		for task := range n {
			is(t, b, task, State{Active: true, Arrival: task, Demand: 1})
		}
	}
	refused(t, slices.Repeat(tasksOf(10, 3), 1<<16))
}

func TestNewEveryEdgeOfATime(t *testing.T) {
	times := []int{1, 2, 10, 1<<31 - 1, 1 << 32, api.MaxTime - 1, api.MaxTime}
	for _, period := range times {
		for _, wcet := range times {
			b := made(t, period, wcet) // a Wcet greater than the Period too
			begins(t, b, 0, wcet, 5)
			is(t, b, 0, State{Active: true, Arrival: 5, Demand: wcet})
			ends(t, b, 0, true)
			asks(t, b, 0, wcet+1, true)
			next(t, b, 0, 5, 5+period)
			starts(t, b, 0, 5+period, true)
			is(t, b, 0, State{Active: true, Arrival: 5 + period, Demand: wcet, Cut: true})
		}
		for _, wrong := range noTimes {
			refused(t, tasksOf(period, wrong))
			refused(t, tasksOf(wrong, period))
		}
	}
	for _, wrong := range noTimes {
		refused(t, tasksOf(wrong, wrong))
	}
}

// TestNewLooksAtEveryTask: one wrong number among many tasks is refused.
func TestNewLooksAtEveryTask(t *testing.T) {
	for _, n := range []int{2, 3, api.MaxTasks} {
		for task := range n {
			for _, wrong := range noTimes {
				tasks := slices.Repeat(tasksOf(10, 3), n)
				tasks[task].Period = wrong
				refused(t, tasks)
				tasks[task].Period, tasks[task].Wcet = 10, wrong
				refused(t, tasks)
			}
		}
	}
}

// TestNewLooksAtNothingElse: a Deadline or a Section that is not valid is none of the book's concern.
func TestNewLooksAtNothingElse(t *testing.T) {
	for _, x := range extremes {
		tasks := []api.Task{{Period: 10, Deadline: x, Wcet: 3, Sections: []api.Section{{At: x, Res: x, Len: x}}}}
		if b, err := New(tasks); b == nil || err != api.OK {
			t.Errorf("New(%v) = %v, %d", tasks, b, err)
		}
	}
}

// TestNewKeepsNoArgument: what becomes of the tasks later changes nothing, and New changes nothing of them.
func TestNewKeepsNoArgument(t *testing.T) {
	section := api.Section{At: 1, Res: 2, Len: 1}
	tasks := append(make([]api.Task, 0, 8), tasksOf(10, 3, 20, 5)...)
	for i := range tasks {
		tasks[i].Sections = []api.Section{section}
	}
	b, err := New(tasks)
	if err != api.OK {
		t.Fatal(err)
	}
	for i, want := range tasksOf(10, 3, 20, 5) {
		got := tasks[i]
		if got.Period != want.Period || got.Deadline != want.Deadline || got.Wcet != want.Wcet || !slices.Equal(got.Sections, []api.Section{section}) {
			t.Errorf("New has changed task %d: %v", i, got)
		}
	}
	for _, rest := range tasks[2:cap(tasks)] {
		if rest.Period != 0 || rest.Wcet != 0 {
			t.Errorf("New has written behind the tasks: %v", rest)
		}
	}
	tasks[0], tasks[1] = api.Task{Period: 1, Wcet: 1}, api.Task{Period: 2, Wcet: 2}
	begins(t, b, 0, 99, 0)
	begins(t, b, 1, 99, 0)
	is(t, b, 0, State{Active: true, Demand: 3, Cut: true})
	is(t, b, 1, State{Active: true, Demand: 5, Cut: true})
	ends(t, b, 0, true)
	ends(t, b, 1, true)
	asks(t, b, 0, 1, true)
	asks(t, b, 1, 1, true)
	next(t, b, 0, 0, 10)
	next(t, b, 1, 0, 20)
}

func TestBooksAreApart(t *testing.T) {
	tasks := tasksOf(10, 3)
	a, _ := New(tasks)
	b, _ := New(tasks)
	begins(t, a, 0, 2, 7)
	works(t, a, 0, 7, true)
	bare(t, b, 0)
	begins(t, b, 0, 3, 8)
	ends(t, b, 0, true)
	is(t, a, 0, State{Active: true, Arrival: 7, Demand: 2, Done: 1})
	refused(t, nil)
	is(t, a, 0, State{Active: true, Arrival: 7, Demand: 2, Done: 1})
}

func TestAskEveryDemand(t *testing.T) {
	for _, demand := range []int{1, 2, 3, 4, 5, 1 << 31, 1 << 32, 1<<32 + 1, api.MaxTime, api.MaxTime + 1, latest, 1 << 62, most - 1, most} {
		b := made(t, 10, 3)
		begins(t, b, 0, demand, 0)
		want := State{Active: true, Demand: demand}
		if demand > 3 {
			want.Demand, want.Cut = 3, true
		}
		is(t, b, 0, want)
	}
	b := made(t, 10, 3)
	for _, demand := range noDemands {
		asks(t, b, 0, demand, false)
		bare(t, b, 0)
	}
	asks(t, b, 0, 2, true)
	for _, demand := range noDemands {
		asks(t, b, 0, demand, false)
	}
	starts(t, b, 0, 0, true)
	for _, demand := range noDemands {
		asks(t, b, 0, demand, false)
	}
	is(t, b, 0, State{Active: true, Demand: 2})
	ends(t, b, 0, true)
	bare(t, b, 0)
}

// TestAskTwice: while a job is pending, a request is lost, whatever it asks for; it is not done later.
func TestAskTwice(t *testing.T) {
	b := made(t, 10, 3)
	asks(t, b, 0, 2, true)
	for _, demand := range []int{1, 2, 3, 4, most} {
		asks(t, b, 0, demand, false)
	}
	next(t, b, 0, 6, 6)
	starts(t, b, 0, 6, true)
	is(t, b, 0, State{Active: true, Arrival: 6, Demand: 2})
	ends(t, b, 0, true)
	bare(t, b, 0)
}

// TestAskWhileActive: one more job may be pending then, and one only; it arrives when the first one is over.
func TestAskWhileActive(t *testing.T) {
	b := made(t, 10, 3)
	begins(t, b, 0, 2, 6)
	asks(t, b, 0, 9, true)
	asks(t, b, 0, 1, false)
	is(t, b, 0, State{Active: true, Arrival: 6, Demand: 2})
	for _, now := range someTicks {
		next(t, b, 0, now, -1)
		starts(t, b, 0, now, false)
	}
	works(t, b, 0, 6, true)
	works(t, b, 0, 7, true)
	works(t, b, 0, 8, false)
	asks(t, b, 0, 1, false)
	is(t, b, 0, State{Active: true, Arrival: 6, Demand: 2, Done: 2})
	ends(t, b, 0, true)
	asks(t, b, 0, 1, false)
	next(t, b, 0, 8, 16)
	starts(t, b, 0, 20, true)
	is(t, b, 0, State{Active: true, Arrival: 20, Demand: 3, Cut: true})
	ends(t, b, 0, true)
	bare(t, b, 0)
}

// TestNoTask: nothing is answered of it, and nothing changes.
func TestNoTask(t *testing.T) {
	for _, n := range []int{1, 2, 3, api.MaxTasks - 1, api.MaxTasks} {
		b, err := New(slices.Repeat(tasksOf(10, 3), n))
		if err != api.OK {
			t.Fatal(err)
		}
		begins(t, b, n-1, 2, 7)
		asks(t, b, n-1, 1, true)
		for _, task := range noTasks(n) {
			for _, demand := range []int{1, 3, 0, -1, most, least} {
				asks(t, b, task, demand, false)
			}
			for _, now := range append([]int{-1, 0, 7, latest}, extremes...) {
				next(t, b, task, now, -1)
				starts(t, b, task, now, false)
				works(t, b, task, now, false)
			}
			is(t, b, task, State{})
			ends(t, b, task, false)
		}
		for task := range n - 1 {
			bare(t, b, task)
		}
		is(t, b, n-1, State{Active: true, Arrival: 7, Demand: 2})
		ends(t, b, n-1, true)
		next(t, b, n-1, 0, 17)
	}
}

// TestNextWithoutArrival: it is now, at every tick.
func TestNextWithoutArrival(t *testing.T) {
	for _, period := range []int{1, 10, api.MaxTime} {
		b := made(t, period, 3)
		for _, now := range someTicks {
			next(t, b, 0, now, -1)
		}
		asks(t, b, 0, 1, true)
		for range 2 {
			for _, now := range someTicks {
				next(t, b, 0, now, now)
			}
			for _, now := range noTicks {
				next(t, b, 0, now, -1)
			}
		}
	}
}

// TestNextBehindAnArrival: ahead of, at, and behind the last arrival plus the Period, at the first and the last ticks too.
func TestNextBehindAnArrival(t *testing.T) {
	for _, period := range []int{1, 2, 10, 1 << 32, api.MaxTime} {
		for _, arrival := range someTicks {
			b := made(t, period, 3)
			begins(t, b, 0, 1, arrival)
			ends(t, b, 0, true)
			for _, now := range someTicks {
				next(t, b, 0, now, -1)
			}
			asks(t, b, 0, 1, true)
			first := arrival + period
			for _, now := range append([]int{first - 2, first - 1, first, first + 1, first + period, arrival}, someTicks...) {
				switch {
				case now < 0 || now > latest:
					next(t, b, 0, now, -1)
				case now < first:
					next(t, b, 0, now, first)
				default:
					next(t, b, 0, now, now)
				}
			}
			for _, now := range noTicks {
				next(t, b, 0, now, -1)
			}
		}
	}
}

// TestNextIsOfTheLastArrival: not of the first one, nor of when the job was asked for, worked, or ended.
func TestNextIsOfTheLastArrival(t *testing.T) {
	b := made(t, 10, 3)
	begins(t, b, 0, 3, 3)
	arrival := 3
	for _, following := range []int{13, 24, 100, 110, 1 << 40, latest - 50, latest} {
		works(t, b, 0, arrival+5, true)
		works(t, b, 0, arrival+40, true)
		ends(t, b, 0, true)
		asks(t, b, 0, 3, true)
		next(t, b, 0, 0, arrival+10)
		next(t, b, 0, arrival, arrival+10)
		starts(t, b, 0, following, true)
		arrival = following
	}
}

// TestAskingChangesNothing: Next and State may be called as often as one likes.
func TestAskingChangesNothing(t *testing.T) {
	b := made(t, 10, 3)
	asks(t, b, 0, 2, true)
	for range 3 {
		next(t, b, 0, 50, 50)
		next(t, b, 0, latest, latest)
		next(t, b, 0, -1, -1)
		is(t, b, 0, State{})
	}
	next(t, b, 0, 4, 4)
	starts(t, b, 0, 4, true)
	works(t, b, 0, 4, true)
	for range 3 {
		is(t, b, 0, State{Active: true, Arrival: 4, Demand: 2, Done: 1})
		next(t, b, 0, 14, -1)
	}
	works(t, b, 0, 5, true)
}

// P11.2

// TestStartAtEveryTick: as the first job of a task.
func TestStartAtEveryTick(t *testing.T) {
	for _, now := range someTicks {
		b := made(t, api.MaxTime, 3)
		starts(t, b, 0, now, false)
		begins(t, b, 0, 2, now)
		is(t, b, 0, State{Active: true, Arrival: now, Demand: 2})
		starts(t, b, 0, now, false)
		next(t, b, 0, now, -1)
	}
}

// TestStartAtNoTick: it is refused, also at the number that Next answers there, and with nothing pending.
func TestStartAtNoTick(t *testing.T) {
	b := made(t, 10, 3)
	refuses := func() {
		t.Helper()
		for _, now := range noTicks {
			starts(t, b, 0, now, false)
		}
	}
	refuses()
	bare(t, b, 0)
	asks(t, b, 0, 2, true)
	refuses()
	is(t, b, 0, State{})
	next(t, b, 0, 5, 5)
	starts(t, b, 0, 5, true)
	refuses()
	asks(t, b, 0, 1, true)
	refuses()
	is(t, b, 0, State{Active: true, Arrival: 5, Demand: 2})
	ends(t, b, 0, true)
	refuses()
	next(t, b, 0, 0, 15)

	b = made(t, 10, 3)
	begins(t, b, 0, 1, latest)
	ends(t, b, 0, true)
	asks(t, b, 0, 1, true)
	next(t, b, 0, latest, latest+10)
	starts(t, b, 0, latest+10, false)
	starts(t, b, 0, latest, false)
}

// TestStartAheadAtAndBehind: of what Next says; refused, it leaves the job pending.
func TestStartAheadAtAndBehind(t *testing.T) {
	for _, period := range []int{1, 2, 10, api.MaxTime} {
		for _, arrival := range []int{0, 1, 77, 1 << 40} {
			for late := -12; late <= 12; late++ {
				b := made(t, period, 3)
				begins(t, b, 0, 1, arrival)
				ends(t, b, 0, true)
				asks(t, b, 0, 4, true)
				now := arrival + period + late
				starts(t, b, 0, now, late >= 0)
				if late >= 0 {
					is(t, b, 0, State{Active: true, Arrival: now, Demand: 3, Cut: true})
					continue
				}
				is(t, b, 0, State{})
				next(t, b, 0, 0, arrival+period)
				starts(t, b, 0, arrival+period, true)
				is(t, b, 0, State{Active: true, Arrival: arrival + period, Demand: 3, Cut: true})
			}
		}
	}
}

// TestStartWithoutAPendingJob: nothing changes, neither of the active job nor of the arrival.
func TestStartWithoutAPendingJob(t *testing.T) {
	b := made(t, 10, 3)
	starts(t, b, 0, 0, false)
	bare(t, b, 0)
	begins(t, b, 0, 3, 4)
	works(t, b, 0, 4, true)
	for _, now := range []int{4, 14, 15, 100} {
		starts(t, b, 0, now, false)
	}
	is(t, b, 0, State{Active: true, Arrival: 4, Demand: 3, Done: 1})
	works(t, b, 0, 4, false)
	ends(t, b, 0, true)
	starts(t, b, 0, 100, false)
	bare(t, b, 0)
	asks(t, b, 0, 1, true)
	next(t, b, 0, 0, 14)
}

// TestRefusedStartWithAPendingJob: an active job goes on as it was, with one pending behind it.
func TestRefusedStartWithAPendingJob(t *testing.T) {
	b := made(t, 10, 3)
	begins(t, b, 0, 3, 4)
	works(t, b, 0, 6, true)
	asks(t, b, 0, 2, true)
	for _, now := range []int{0, 4, 6, 14, 99} {
		starts(t, b, 0, now, false)
	}
	is(t, b, 0, State{Active: true, Arrival: 4, Demand: 3, Done: 1})
	works(t, b, 0, 6, false)
	ends(t, b, 0, true)
	next(t, b, 0, 99, 99)
	next(t, b, 0, 9, 14)
	starts(t, b, 0, 14, true)
	is(t, b, 0, State{Active: true, Arrival: 14, Demand: 2})
}

// TestDemandIsLimited: to the Wcet, and Cut says whether it was.
func TestDemandIsLimited(t *testing.T) {
	for _, wcet := range []int{1, 2, 3, 10, 1 << 32, api.MaxTime} {
		for _, demand := range []int{1, 2, wcet - 1, wcet, wcet + 1, wcet + 2, 2 * wcet, 1 << 62, most} {
			if demand < 1 {
				continue
			}
			b := made(t, 10, wcet)
			begins(t, b, 0, demand, 9)
			is(t, b, 0, State{Active: true, Arrival: 9, Demand: min(demand, wcet), Cut: demand > wcet})
			ends(t, b, 0, true)
			begins(t, b, 0, 1, 19)
			is(t, b, 0, State{Active: true, Arrival: 19, Demand: 1})
		}
	}
}

// TestStateIsAValue: what is written into it changes nothing in the book, and it goes on as it was read.
func TestStateIsAValue(t *testing.T) {
	b := made(t, 10, 3)
	begins(t, b, 0, 3, 5)
	s := b.State(0)
	works(t, b, 0, 5, true)
	if s != (State{Active: true, Arrival: 5, Demand: 3}) {
		t.Errorf("the state that was read is %v", s)
	}
	s.Active, s.Arrival, s.Demand, s.Done, s.Cut = false, 0, 9, 9, true
	is(t, b, 0, State{Active: true, Arrival: 5, Demand: 3, Done: 1})
	works(t, b, 0, 6, true)
}

// TestWorkUntilAllIsDone: for every demand, and no unit more.
func TestWorkUntilAllIsDone(t *testing.T) {
	for wcet := 1; wcet <= 6; wcet++ {
		for demand := 1; demand <= 8; demand++ {
			b := made(t, 10, wcet)
			begins(t, b, 0, demand, 3)
			all := min(demand, wcet)
			for done := range all {
				is(t, b, 0, State{Active: true, Arrival: 3, Demand: all, Done: done, Cut: demand > wcet})
				works(t, b, 0, 3+2*done, true)
			}
			for _, now := range append(someTicks, 100, 101) {
				works(t, b, 0, now, false)
			}
			is(t, b, 0, State{Active: true, Arrival: 3, Demand: all, Done: all, Cut: demand > wcet})
			ends(t, b, 0, true)
			bare(t, b, 0)
		}
	}
}

// TestWorkTwiceInOneTick: the second unit is refused, at every tick, and as often as it is asked for.
func TestWorkTwiceInOneTick(t *testing.T) {
	for _, now := range someTicks {
		b := made(t, 10, 5)
		begins(t, b, 0, 5, now)
		works(t, b, 0, now, true)
		for range 3 {
			works(t, b, 0, now, false)
		}
		is(t, b, 0, State{Active: true, Arrival: now, Demand: 5, Done: 1})
		if now < latest {
			works(t, b, 0, now+1, true)
			works(t, b, 0, now+1, false)
			is(t, b, 0, State{Active: true, Arrival: now, Demand: 5, Done: 2})
		}
	}
}

// TestWorkAtNoTick: nothing is done, before the first unit and behind it.
func TestWorkAtNoTick(t *testing.T) {
	b := made(t, 10, 3)
	for _, now := range noTicks {
		works(t, b, 0, now, false)
	}
	bare(t, b, 0)
	begins(t, b, 0, 3, 0)
	for done := range 3 {
		for _, now := range noTicks {
			works(t, b, 0, now, false)
		}
		is(t, b, 0, State{Active: true, Demand: 3, Done: done})
		works(t, b, 0, done, true)
		for _, now := range noTicks {
			works(t, b, 0, now, false)
		}
		works(t, b, 0, done, false)
	}
}

// TestWorkAtEarlierTicks: only the tick of the last unit counts, and a unit may be done before the arrival.
func TestWorkAtEarlierTicks(t *testing.T) {
	b := made(t, 10, 9)
	begins(t, b, 0, 9, 50)
	for done, now := range []int{60, 59, 60, 3, 0, latest, 0} {
		works(t, b, 0, now, true)
		works(t, b, 0, now, false)
		is(t, b, 0, State{Active: true, Arrival: 50, Demand: 9, Done: done + 1})
	}
}

// TestNewJobInTheTickOfTheOneBefore: it has done no unit yet, so it works there.
func TestNewJobInTheTickOfTheOneBefore(t *testing.T) {
	for _, now := range []int{1, 2, 50, latest} {
		b := made(t, 1, 3)
		begins(t, b, 0, 1, now-1)
		works(t, b, 0, now, true)
		works(t, b, 0, now, false)
		ends(t, b, 0, true)
		works(t, b, 0, now, false)
		begins(t, b, 0, 2, now)
		is(t, b, 0, State{Active: true, Arrival: now, Demand: 2})
		works(t, b, 0, now, true)
		works(t, b, 0, now, false)
		is(t, b, 0, State{Active: true, Arrival: now, Demand: 2, Done: 1})
	}
	b := made(t, 10, 3) // at tick 0 too, to which the ticks go back
	begins(t, b, 0, 3, 20)
	works(t, b, 0, 0, true)
	ends(t, b, 0, true)
	begins(t, b, 0, 3, 30)
	works(t, b, 0, 0, true)
	works(t, b, 0, 0, false)
}

// TestWorkWithoutAnActiveJob: a job that is pending, over, or never asked for does not work.
func TestWorkWithoutAnActiveJob(t *testing.T) {
	b := made(t, 10, 3)
	refuses := func() {
		t.Helper()
		for _, now := range someTicks {
			works(t, b, 0, now, false)
		}
		is(t, b, 0, State{})
	}
	refuses()
	asks(t, b, 0, 3, true)
	refuses()
	starts(t, b, 0, 0, true)
	works(t, b, 0, 1, true)
	ends(t, b, 0, true)
	refuses()
	asks(t, b, 0, 3, true)
	refuses()
	starts(t, b, 0, 10, true)
	is(t, b, 0, State{Active: true, Arrival: 10, Demand: 3})
}

// TestOverAtAnyTime: with no unit done, some, or all; a job that is pending is not ended by it.
func TestOverAtAnyTime(t *testing.T) {
	for done := range 4 {
		for _, pending := range []bool{false, true} {
			b := made(t, 10, 3)
			ends(t, b, 0, false)
			asks(t, b, 0, 3, true)
			ends(t, b, 0, false)
			starts(t, b, 0, 8, true)
			for i := range done {
				works(t, b, 0, 8+i, true)
			}
			if pending {
				asks(t, b, 0, 2, true)
			}
			ends(t, b, 0, true)
			is(t, b, 0, State{})
			ends(t, b, 0, false)
			asks(t, b, 0, 2, !pending)
			next(t, b, 0, 8, 18)
			starts(t, b, 0, 17, false)
			starts(t, b, 0, 18, true)
			is(t, b, 0, State{Active: true, Arrival: 18, Demand: 2})
		}
	}
}

// TestTasksAreApart: a call for one task changes nothing of the others.
func TestTasksAreApart(t *testing.T) {
	var pairs []int
	for task := range api.MaxTasks {
		pairs = append(pairs, 10+task, 3+task)
	}
	b := made(t, pairs...)
	for task := range api.MaxTasks {
		for other := range task {
			is(t, b, other, State{Active: true, Arrival: other, Demand: 3 + other, Done: 1, Cut: true})
		}
		for other := task; other < api.MaxTasks; other++ {
			bare(t, b, other)
		}
		begins(t, b, task, 99, task)
		works(t, b, task, 7, true)
	}
	for task := api.MaxTasks - 1; task >= 0; task-- {
		ends(t, b, task, true)
		asks(t, b, task, 2, true)
		next(t, b, task, 0, 10+2*task)
		for other := range task {
			is(t, b, other, State{Active: true, Arrival: other, Demand: 3 + other, Done: 1, Cut: true})
			works(t, b, other, 7, false)
		}
	}
	for task := range api.MaxTasks {
		starts(t, b, task, 9+2*task, false)
		starts(t, b, task, 10+2*task, true)
	}
}

// P11.3

// past is a job of the rival: when it arrived, what was asked for, the ticks at which it worked, and whether it is over.
type past struct {
	arrival, asked int
	units          []int
	over           bool
}

// rival is another spelling of the entry of a task: it keeps all the jobs that the task has ever had, and the demands that wait.
type rival struct {
	period, wcet int
	jobs         []past
	waiting      []int
}

// copied returns a rival that goes on as v does.
func (v *rival) copied() *rival {
	w := &rival{v.period, v.wcet, slices.Clone(v.jobs), slices.Clone(v.waiting)}
	for i := range w.jobs {
		w.jobs[i].units = slices.Clone(w.jobs[i].units)
	}
	return w
}

// current returns the job that is not over; nil if there is none.
func (v *rival) current() *past {
	for i := range v.jobs {
		if !v.jobs[i].over {
			return &v.jobs[i]
		}
	}
	return nil
}

func (v *rival) ask(demand int) bool {
	if demand <= 0 || len(v.waiting) == 1 {
		return false
	}
	v.waiting = append(v.waiting, demand)
	return true
}

func (v *rival) next(now int) int {
	if now < 0 || now >= 1<<53 || len(v.waiting) == 0 || v.current() != nil {
		return -1
	}
	if len(v.jobs) > 0 {
		if first := v.jobs[len(v.jobs)-1].arrival + v.period; first > now {
			return first
		}
	}
	return now
}

func (v *rival) start(now int) bool {
	if now < 0 || v.next(now) != now {
		return false
	}
	v.jobs = append(v.jobs, past{arrival: now, asked: v.waiting[0]})
	v.waiting = nil
	return true
}

func (v *rival) state() State {
	j := v.current()
	if j == nil {
		return State{}
	}
	s := State{Active: true, Arrival: j.arrival, Demand: j.asked, Done: len(j.units)}
	if j.asked > v.wcet {
		s.Demand, s.Cut = v.wcet, true
	}
	return s
}

func (v *rival) work(now int) bool {
	j := v.current()
	if j == nil || now < 0 || now >= 1<<53 {
		return false
	}
	n := len(j.units)
	if n == j.asked || n == v.wcet || n > 0 && j.units[n-1] == now {
		return false
	}
	j.units = append(j.units, now)
	return true
}

func (v *rival) end() bool {
	j := v.current()
	if j == nil {
		return false
	}
	j.over = true
	return true
}

// Calls of a run.
const (
	ask = iota
	start
	work
	over
	calls // how many there are
)

// call is one of a run; with is its demand or its tick.
type call struct{ name, task, with int }

// does makes the call on both, and tells whether they answer the same. Of no such task, every call answers false.
func (c call) does(b *Book, all []*rival) bool {
	v := &rival{period: 1, wcet: 1}
	known := c.task >= 0 && c.task < len(all)
	if known {
		v = all[c.task]
	}
	var got, want bool
	switch c.name {
	case ask:
		got, want = b.Ask(c.task, c.with), v.ask(c.with)
	case start:
		got, want = b.Start(c.task, c.with), v.start(c.with)
	case work:
		got, want = b.Work(c.task, c.with), v.work(c.with)
	case over:
		got, want = b.Over(c.task), v.end()
	}
	return got == (want && known)
}

// alike tells whether both have the same jobs, as far as State and Next at these numbers say.
func alike(b *Book, all []*rival, nows ...int) bool {
	for task, v := range all {
		if b.State(task) != v.state() {
			return false
		}
		for _, now := range nows {
			if b.Next(task, now) != v.next(now) {
				return false
			}
		}
	}
	return true
}

// copied returns a book that goes on as b does, so that each can be given other calls.
func copied(b *Book) *Book { return &Book{slices.Clone(b.entries)} }

// TestAllShortRuns goes through every run of some calls, from the first job, from an active one, and from one that is over, with another one pending or not.
func TestAllShortRuns(t *testing.T) {
	list := []call{{ask, 0, 1}, {ask, 0, 3}, {ask, 0, 0}, {start, 0, -1}, {start, 0, 1 << 53}, {work, 0, -1}, {over, 0, 0}}
	for now := range 4 {
		list = append(list, call{start, 0, now}, call{work, 0, now})
	}
	heads := [][]call{
		nil,
		{{ask, 0, 3}, {start, 0, 0}},
		{{ask, 0, 1}, {start, 0, 1}, {work, 0, 1}, {ask, 0, 3}},
		{{ask, 0, 3}, {start, 0, 0}, {work, 0, 1}, {work, 0, 2}, {over, 0, 0}, {ask, 0, 2}},
		{{ask, 0, 2}, {start, 0, 0}, {work, 0, 2}, {over, 0, 0}, {ask, 0, 1}, {start, 0, 2}},
	}
	var run func(b *Book, v *rival, told []call, left int)
	run = func(b *Book, v *rival, told []call, left int) {
		for _, c := range list {
			d, w := copied(b), v.copied()
			now := append(slices.Clone(told), c)
			if !c.does(d, []*rival{w}) || !alike(d, []*rival{w}, -1, 0, 1, 2, 3, 4, latest, 1<<53) {
				t.Fatalf("Period %d, calls %v: want %v", v.period, now, w)
			}
			if left > 1 {
				run(d, w, now, left-1)
			}
		}
	}
	for period := 1; period <= 2; period++ {
		for _, head := range heads {
			b, v := made(t, period, 2), &rival{period: period, wcet: 2}
			for _, c := range head {
				if !c.does(b, []*rival{v}) {
					t.Fatalf("Period %d, calls %v: want %v", period, head, v)
				}
			}
			run(b, v, head, 4)
		}
	}
}

// longRun returns many calls of a fixed order for n tasks: the ticks rise slowly, and go back now and then.
func longRun(n int, number func(int) int) []call {
	edges := []int{least, -1, 0, 1, latest - 1, latest, latest + 1, most}
	var l []call
	for i := range 6000 {
		c := call{number(calls), number(n+2) - 1, i/(4*n) + number(3)}
		switch number(8) {
		case 0:
			c.with = number(8)
		case 1:
			if i > 3000 || c.name == ask { // behind an arrival at the last tick, there is no other one
				c.with = edges[number(len(edges))]
			}
		}
		if number(60) == 0 {
			c.task = edges[number(len(edges))]
		}
		l = append(l, c)
	}
	return l
}

func TestLongRuns(t *testing.T) {
	number := source()
	for n := 1; n <= api.MaxTasks; n++ {
		var pairs []int
		var all []*rival
		for range n {
			v := &rival{period: 1 + number(12), wcet: 1 + number(5)}
			pairs, all = append(pairs, v.period, v.wcet), append(all, v)
		}
		b := made(t, pairs...)
		for i, c := range longRun(n, number) {
			if !c.does(b, all) || i%16 == 0 && !alike(b, all, -1, 0, c.with, i/(4*n), latest) {
				t.Fatalf("%d tasks, call %d: %v", n, i, c)
			}
		}
	}
}

// TestArrivalsAndUnits: jobs are asked for, started and worked for as often as can be, and more. Two arrivals are at least a Period apart, and no job works more than its Wcet, or twice in one tick.
func TestArrivalsAndUnits(t *testing.T) {
	number := source()
	pairs := []int{1, 1, 1, 4, 3, 2, 10, 3, 7, 9}
	b := made(t, pairs...)
	arrivals, units, worked := [5]int{}, [5]int{}, [5]int{}
	jobs, done := [5]int{}, [5]int{}
	for now := range 3000 {
		for range 20 {
			task := number(5)
			period, wcet := pairs[2*task], pairs[2*task+1]
			b.Ask(task, 1+number(2*wcet))
			if b.Start(task, now) {
				if jobs[task] > 0 && now-arrivals[task] < period {
					t.Fatalf("task %d arrives at %d and at %d", task, arrivals[task], now)
				}
				arrivals[task], units[task], worked[task] = now, 0, -1
				jobs[task]++
			}
			if b.Work(task, now) {
				if units[task] == wcet || worked[task] == now {
					t.Fatalf("task %d works at %d, with %d units done, the last at %d", task, now, units[task], worked[task])
				}
				units[task]++
				worked[task] = now
				done[task]++
			}
			if s := b.State(task); s.Active && (s.Done != units[task] || s.Done > wcet || s.Arrival != arrivals[task]) {
				t.Fatalf("State(%d) = %v", task, s)
			}
			if s := b.State(task); s.Done == s.Demand || number(20) == 0 {
				b.Over(task)
			}
		}
	}
	for task := range jobs {
		if jobs[task] < 100 || done[task] < 100 {
			t.Errorf("task %d has had %d jobs, %d units", task, jobs[task], done[task])
		}
	}
}

// TestBusyTask: as early as may be, it has a job in every Period, and as many units as the Wcet.
func TestBusyTask(t *testing.T) {
	b := made(t, 5, 3)
	jobs, units := 0, 0
	for now := range 1000 {
		b.Ask(0, 9)
		if b.Start(0, now) {
			jobs++
		}
		for range 3 {
			if b.Work(0, now) {
				units++
			}
		}
		if s := b.State(0); s.Done == 3 {
			ends(t, b, 0, true)
		}
	}
	if jobs != 200 || units != 600 {
		t.Errorf("%d jobs, %d units", jobs, units)
	}
}

// Ways

// sources returns the files of the package that are no tests.
func sources(t *testing.T) map[string]*ast.File {
	t.Helper()
	names, err := filepath.Glob("*.go")
	if err != nil || len(names) == 0 {
		t.Fatal(names, err)
	}
	files := map[string]*ast.File{}
	for _, name := range names {
		if strings.HasSuffix(name, "_test.go") {
			continue
		}
		file, err := parser.ParseFile(token.NewFileSet(), name, nil, 0)
		if err != nil {
			t.Fatal(err)
		}
		files[name] = file
	}
	return files
}

// TestImports: the chapter lets the layer import package api only.
func TestImports(t *testing.T) {
	for name, file := range sources(t) {
		for _, i := range file.Imports {
			if i.Path.Value != `"tourbillon/api"` {
				t.Errorf("%s imports %s", name, i.Path.Value)
			}
		}
	}
}

// fields returns the fields of each struct of the package.
func fields(t *testing.T) map[string][]*ast.Field {
	t.Helper()
	structs := map[string][]*ast.Field{}
	for _, file := range sources(t) {
		ast.Inspect(file, func(n ast.Node) bool {
			if spec, ok := n.(*ast.TypeSpec); ok {
				if s, ok := spec.Type.(*ast.StructType); ok {
					structs[spec.Name.Name] = s.Fields.List
				}
			}
			return true
		})
	}
	return structs
}

// TestWhatIsKnownOfATaskIsEmbedded: the book is a list of structs, and in each of them the numbers of its task are a struct without a name of its own.
func TestWhatIsKnownOfATaskIsEmbedded(t *testing.T) {
	structs := fields(t)
	if len(structs["Book"]) != 1 {
		t.Fatalf("the book has %d fields", len(structs["Book"]))
	}
	list, ok := structs["Book"][0].Type.(*ast.ArrayType)
	if !ok {
		t.Fatal("the book is no list of entries")
	}
	embedded := 0
	for _, f := range structs[list.Elt.(*ast.Ident).Name] {
		if name, ok := f.Type.(*ast.Ident); ok && len(f.Names) == 0 && len(structs[name.Name]) > 0 {
			embedded++
		}
	}
	if embedded != 1 {
		t.Errorf("%d structs are embedded in the entry of the book", embedded)
	}
}
