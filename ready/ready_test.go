package ready

import (
	"go/ast"
	"go/parser"
	"go/token"
	"path/filepath"
	"slices"
	"strings"
	"testing"

	"tourbillon/api"
)

const (
	most    = 1<<63 - 1
	least   = -1 << 63
	lastOne = api.MaxTasks - 1 // the last task
	deepest = 1<<53 - 1        // the greatest level
)

// extremes are no policies, no tasks and no levels. Some of them have the lower bits of one.
var extremes = []int{most, most - 1, least, least + 1, least + 2, -1 << 31, -1 << 32, -1<<32 + 1, -1 << 53, 1 << 53, 1<<53 + 1, 1 << 58, 1<<58 + 1, 1 << 62, 1<<62 + 2}

// noTasks are numbers that are none.
var noTasks = append([]int{-1, -2, -api.MaxTasks, api.MaxTasks, api.MaxTasks + 1, 31, 32, 33, 64, 1 << 8, 1<<8 + 3, 1 << 32, 1<<32 + 3}, extremes...)

// noLevels are numbers that are none.
var noLevels = append([]int{-1, -2, -32, -64, -deepest}, extremes...)

// someLevels are some, with the first and the last ones.
var someLevels = []int{0, 1, 2, 31, 32, 63, 64, 255, 256, 1<<31 - 1, 1 << 32, 1 << 52, deepest - 1, deepest}

// made returns an empty queue.
func made(t *testing.T, policy int) *Queue {
	t.Helper()
	q, err := New(policy)
	if err != api.OK || q == nil {
		t.Fatalf("New(%d) = %v, %d", policy, q, err)
	}
	return q
}

// adds holds the answer of Add against the one that is wanted.
func adds(t *testing.T, q *Queue, task, level int, want api.Errno) {
	t.Helper()
	if got := q.Add(task, level); got != want {
		t.Errorf("Add(%d, %d) = %d, want %d", task, level, got, want)
	}
}

// puts adds tasks: each with its base level behind it.
func puts(t *testing.T, q *Queue, pairs ...int) {
	t.Helper()
	for i := 0; i < len(pairs); i += 2 {
		adds(t, q, pairs[i], pairs[i+1], api.OK)
	}
}

// raises holds the answer of Raise against the one that is wanted.
func raises(t *testing.T, q *Queue, task, level int, want api.Errno) {
	t.Helper()
	if got := q.Raise(task, level); got != want {
		t.Errorf("Raise(%d, %d) = %d, want %d", task, level, got, want)
	}
}

// falls holds the answer of Fall against the one that is wanted.
func falls(t *testing.T, q *Queue, task int, want api.Errno) {
	t.Helper()
	if got := q.Fall(task); got != want {
		t.Errorf("Fall(%d) = %d, want %d", task, got, want)
	}
}

// removes holds the answer of Remove against the one that is wanted.
func removes(t *testing.T, q *Queue, task int, want api.Errno) {
	t.Helper()
	if got := q.Remove(task); got != want {
		t.Errorf("Remove(%d) = %d, want %d", task, got, want)
	}
}

// level holds what Level returns against what is wanted of a task that is in the queue.
func level(t *testing.T, q *Queue, task, want int) {
	t.Helper()
	if got, ok := q.Level(task); got != want || !ok {
		t.Errorf("Level(%d) = %d, %v, want %d", task, got, ok, want)
	}
}

// lacks holds that a task is not in the queue.
func lacks(t *testing.T, q *Queue, task int) {
	t.Helper()
	if got, ok := q.Level(task); got != 0 || ok {
		t.Errorf("Level(%d) = %d, %v, but it is not in the queue", task, got, ok)
	}
}

// is holds all that a queue answers against the tasks that are wanted, each with its effective level behind it.
func is(t *testing.T, q *Queue, pairs ...int) {
	t.Helper()
	var tasks []int
	for i := 0; i < len(pairs); i += 2 {
		tasks = append(tasks, pairs[i])
		level(t, q, pairs[i], pairs[i+1])
	}
	if got := q.All(); !slices.Equal(got, tasks) {
		t.Errorf("All() = %v, want %v", got, tasks)
	}
	first := -1
	if len(tasks) > 0 {
		first = tasks[0]
	}
	if got := q.First(); got != first {
		t.Errorf("First() = %d, want %d", got, first)
	}
	for task := -1; task <= api.MaxTasks; task++ {
		if !slices.Contains(tasks, task) {
			lacks(t, q, task)
		}
	}
}

// order holds the tasks of a queue against the ones that are wanted.
func order(t *testing.T, q *Queue, want ...int) {
	t.Helper()
	if got := q.All(); !slices.Equal(got, want) {
		t.Errorf("All() = %v, want %v", got, want)
	}
}

// upTo returns the numbers from 0 to n - 1.
func upTo(n int) []int {
	l := make([]int, n)
	for i := range l {
		l[i] = i
	}
	return l
}

// inEveryOrder calls f with every order of the numbers from 0 to n - 1.
func inEveryOrder(n int, f func(order []int)) {
	var more func(order, left []int)
	more = func(order, left []int) {
		if len(left) == 0 {
			f(slices.Clone(order))
		}
		for i, x := range left {
			more(append(slices.Clone(order), x), slices.Delete(slices.Clone(left), i, i+1))
		}
	}
	more(nil, upTo(n))
}

// source returns a function that returns a number less than n, in a fixed order.
func source() func(n int) int {
	state := uint64(1)
	return func(n int) int {
		state = state*6364136223846793005 + 1442695040888963407
		return int(state >> 33 % uint64(n))
	}
}

// P12.1

func TestExamplesOfTheChapter(t *testing.T) {
	q := made(t, api.Fixed)
	adds(t, q, 3, 2, api.OK)
	adds(t, q, 1, 2, api.OK)
	adds(t, q, 5, 1, api.OK)
	is(t, q, 5, 1, 1, 2, 3, 2)
	raises(t, q, 3, 1, api.OK)
	is(t, q, 3, 1, 5, 1, 1, 2)
	falls(t, q, 3, api.OK)
	is(t, q, 5, 1, 1, 2, 3, 2)
}

func TestNewEveryPolicy(t *testing.T) {
	for _, policy := range []int{api.Fixed, api.Edf} {
		is(t, made(t, policy))
	}
	for _, policy := range append([]int{0, -1, -2, 3, 4, 64, 1 << 8, 1<<8 + 1, 1<<8 + 2, 1 << 32, 1<<32 + 1, 1<<32 + 2, deepest}, extremes...) {
		if q, err := New(policy); q != nil || err != api.ErrArg {
			t.Errorf("New(%d) = %v, %d", policy, q, err)
		}
	}
}

// TestEmptyQueue: there is nothing in it, before the first task and behind the last one.
func TestEmptyQueue(t *testing.T) {
	for _, policy := range []int{api.Fixed, api.Edf} {
		q := made(t, policy)
		for range 2 {
			is(t, q)
			for _, task := range append(upTo(api.MaxTasks), noTasks...) {
				lacks(t, q, task)
				falls(t, q, task, api.ErrNone)
				removes(t, q, task, api.ErrNone)
			}
			is(t, q)
			puts(t, q, 0, 0, lastOne, deepest)
			removes(t, q, lastOne, api.OK)
			removes(t, q, 0, api.OK)
		}
	}
}

// TestAddEveryTaskAndLevel: one task alone, with each level.
func TestAddEveryTaskAndLevel(t *testing.T) {
	for _, policy := range []int{api.Fixed, api.Edf} {
		q := made(t, policy)
		for task := range api.MaxTasks {
			for _, level := range someLevels {
				adds(t, q, task, level, api.OK)
				is(t, q, task, level)
				adds(t, q, task, level, api.ErrExists)
				removes(t, q, task, api.OK)
				is(t, q)
			}
		}
	}
}

// TestAddOfNone: a number that is no task or no level is refused, whether the task is in the queue or not, and nothing changes.
func TestAddOfNone(t *testing.T) {
	for _, policy := range []int{api.Fixed, api.Edf} {
		q := made(t, policy)
		for _, there := range [][]int{nil, {0, 0}, {0, 0, 3, 7}, {0, 0, 3, 7, lastOne, deepest}} {
			puts(t, q, there[max(0, len(there)-2):]...)
			for _, task := range noTasks {
				for _, level := range append(slices.Clone(someLevels), noLevels...) {
					adds(t, q, task, level, api.ErrArg)
				}
				lacks(t, q, task)
			}
			for task := range api.MaxTasks {
				for _, level := range noLevels {
					adds(t, q, task, level, api.ErrArg)
				}
			}
			is(t, q, there...)
		}
	}
}

// TestAddAgain: a task that is in the queue is not added, whatever the level, and keeps its own one; also if it is raised.
func TestAddAgain(t *testing.T) {
	for _, policy := range []int{api.Fixed, api.Edf} {
		q := made(t, policy)
		puts(t, q, 0, 5, 3, 5, lastOne, 5)
		for _, level := range someLevels {
			for _, task := range []int{0, 3, lastOne} {
				adds(t, q, task, level, api.ErrExists)
			}
			is(t, q, 0, 5, 3, 5, lastOne, 5)
		}
	}
	q := made(t, api.Fixed)
	puts(t, q, 0, 5, 3, 5)
	raises(t, q, 3, 4, api.OK)
	for _, level := range someLevels {
		adds(t, q, 3, level, api.ErrExists)
		is(t, q, 3, 4, 0, 5)
	}
	falls(t, q, 3, api.OK)
	is(t, q, 0, 5, 3, 5)
	adds(t, q, 3, 1, api.ErrExists)
	is(t, q, 0, 5, 3, 5)
}

// TestAddBehindRemove: the task comes with another level, and is not raised any more.
func TestAddBehindRemove(t *testing.T) {
	q := made(t, api.Fixed)
	puts(t, q, 3, 5, 4, 5)
	raises(t, q, 4, 5, api.OK)
	is(t, q, 4, 5, 3, 5)
	removes(t, q, 4, api.OK)
	is(t, q, 3, 5)
	puts(t, q, 4, 5)
	is(t, q, 3, 5, 4, 5)
	raises(t, q, 4, 0, api.OK)
	removes(t, q, 4, api.OK)
	puts(t, q, 4, 9)
	is(t, q, 3, 5, 4, 9)
	falls(t, q, 4, api.OK)
	is(t, q, 3, 5, 4, 9)
	removes(t, q, 3, api.OK)
	puts(t, q, 3, 9)
	is(t, q, 3, 9, 4, 9)
	for _, level := range someLevels {
		removes(t, q, 3, api.OK)
		puts(t, q, 3, level)
		if level <= 9 {
			is(t, q, 3, level, 4, 9)
		} else {
			is(t, q, 4, 9, 3, level)
		}
	}
}

// TestRaiseToEveryLevel: smaller than the base level, equal to it, or larger; twice, and back.
func TestRaiseToEveryLevel(t *testing.T) {
	for _, task := range []int{0, 1, 16, lastOne} {
		for _, base := range someLevels {
			q := made(t, api.Fixed)
			puts(t, q, task, base)
			for _, first := range someLevels {
				for _, second := range someLevels {
					raises(t, q, task, first, api.OK)
					is(t, q, task, first)
					raises(t, q, task, second, api.OK)
					is(t, q, task, second)
				}
			}
			falls(t, q, task, api.OK)
			is(t, q, task, base)
		}
	}
}

// TestRaiseAgainToALargerLevel: the later level counts, not the smaller one.
func TestRaiseAgainToALargerLevel(t *testing.T) {
	q := made(t, api.Fixed)
	puts(t, q, 1, 10, 2, 20, 3, 30, 4, 40)
	raises(t, q, 3, 5, api.OK)
	is(t, q, 3, 5, 1, 10, 2, 20, 4, 40)
	raises(t, q, 3, 15, api.OK)
	is(t, q, 1, 10, 3, 15, 2, 20, 4, 40)
	raises(t, q, 3, 50, api.OK)
	is(t, q, 1, 10, 2, 20, 4, 40, 3, 50)
	raises(t, q, 3, 20, api.OK)
	is(t, q, 1, 10, 3, 20, 2, 20, 4, 40)
	raises(t, q, 3, 20, api.OK)
	is(t, q, 1, 10, 3, 20, 2, 20, 4, 40)
	falls(t, q, 3, api.OK)
	is(t, q, 1, 10, 2, 20, 3, 30, 4, 40)
}

// TestRaiseOfNone: what is no task or no level answers ErrArg, whether the task is in the queue or not; a task that is not there answers ErrNone only with a level that is one.
func TestRaiseOfNone(t *testing.T) {
	q := made(t, api.Fixed)
	for _, there := range [][]int{nil, {0, 0}, {0, 0, 3, 7}, {0, 0, 3, 7, lastOne, deepest}} {
		puts(t, q, there[max(0, len(there)-2):]...)
		for _, task := range noTasks {
			for _, level := range append(slices.Clone(someLevels), noLevels...) {
				raises(t, q, task, level, api.ErrArg)
			}
		}
		for task := range api.MaxTasks {
			for _, level := range noLevels {
				raises(t, q, task, level, api.ErrArg)
			}
			if _, ok := q.Level(task); ok {
				continue
			}
			for _, level := range someLevels {
				raises(t, q, task, level, api.ErrNone)
			}
			lacks(t, q, task)
		}
		is(t, q, there...)
	}
	raises(t, q, 3, 5, api.OK)
	for _, level := range noLevels {
		raises(t, q, 3, level, api.ErrArg)
		is(t, q, 0, 0, 3, 5, lastOne, deepest)
	}
	removes(t, q, 3, api.OK)
	raises(t, q, 3, 5, api.ErrNone)
	is(t, q, 0, 0, lastOne, deepest)
	puts(t, q, 3, 7)
	is(t, q, 0, 0, 3, 7, lastOne, deepest)
}

// TestRaiseUnderEdf: ErrArg, whatever else is right or wrong, and nothing changes.
func TestRaiseUnderEdf(t *testing.T) {
	q := made(t, api.Edf)
	there := []int{}
	for _, more := range [][]int{nil, {0, 5}, {lastOne, 5}} {
		puts(t, q, more...)
		there = append(there, more...)
		for _, task := range append(upTo(api.MaxTasks), noTasks...) {
			for _, level := range append(slices.Clone(someLevels), noLevels...) {
				raises(t, q, task, level, api.ErrArg)
			}
		}
		is(t, q, there...)
	}
	falls(t, q, lastOne, api.OK)
	is(t, q, there...)
}

// TestFallOfWhatIsNotRaised: nothing changes, nor with a second Fall.
func TestFallOfWhatIsNotRaised(t *testing.T) {
	for _, policy := range []int{api.Fixed, api.Edf} {
		q := made(t, policy)
		puts(t, q, 2, 5, 1, 5, 0, deepest, 3, 0)
		for range 3 {
			for task := range 4 {
				falls(t, q, task, api.OK)
				is(t, q, 3, 0, 1, 5, 2, 5, 0, deepest)
			}
		}
	}
	q := made(t, api.Fixed)
	puts(t, q, 1, 5, 2, 5)
	raises(t, q, 2, 5, api.OK)
	for range 3 {
		falls(t, q, 2, api.OK)
		is(t, q, 1, 5, 2, 5)
	}
}

// TestFallAndRemoveOfNone: ErrNone, of a task that is not there as of a number that is no task, and nothing changes.
func TestFallAndRemoveOfNone(t *testing.T) {
	for _, policy := range []int{api.Fixed, api.Edf} {
		q := made(t, policy)
		puts(t, q, 0, 4, 3, 4, lastOne, 4)
		for _, task := range append(upTo(api.MaxTasks), noTasks...) {
			if slices.Contains([]int{0, 3, lastOne}, task) {
				continue
			}
			falls(t, q, task, api.ErrNone)
			removes(t, q, task, api.ErrNone)
			lacks(t, q, task)
			is(t, q, 0, 4, 3, 4, lastOne, 4)
		}
		removes(t, q, 3, api.OK)
		removes(t, q, 3, api.ErrNone)
		falls(t, q, 3, api.ErrNone)
		is(t, q, 0, 4, lastOne, 4)
	}
	q := made(t, api.Fixed)
	puts(t, q, 0, 4, 3, 4)
	raises(t, q, 3, 1, api.OK)
	removes(t, q, 3, api.OK)
	falls(t, q, 3, api.ErrNone)
	is(t, q, 0, 4)
}

// TestFillAndDrain: all MaxTasks tasks find room, and can be removed in any order, and come again.
func TestFillAndDrain(t *testing.T) {
	for _, policy := range []int{api.Fixed, api.Edf} {
		q := made(t, policy)
		for step := 1; step < api.MaxTasks; step++ { // the tasks come step apart; instead of one that is there already, the first one that is not
			var there []int
			for i := range api.MaxTasks {
				task := i * step % api.MaxTasks
				if slices.Contains(there, task) {
					task = slices.IndexFunc(upTo(api.MaxTasks), func(x int) bool { return !slices.Contains(there, x) })
				}
				adds(t, q, task, 7, api.OK)
				there = append(there, task)
				order(t, q, slices.Sorted(slices.Values(there))...)
			}
			adds(t, q, api.MaxTasks, 7, api.ErrArg)
			for task := range api.MaxTasks {
				adds(t, q, task, 7, api.ErrExists)
			}
			order(t, q, upTo(api.MaxTasks)...)
			for len(there) > 0 {
				removes(t, q, there[0], api.OK)
				there = there[1:]
				order(t, q, slices.Sorted(slices.Values(there))...)
			}
			is(t, q)
		}
	}
}

// TestNothingIsKeptOfARemovedTask: what the queue has is of the tasks that are in it.
func TestNothingIsKeptOfARemovedTask(t *testing.T) {
	q := made(t, api.Fixed)
	puts(t, q, 0, 4, 3, 4)
	raises(t, q, 3, 1, api.OK)
	for _, task := range []int{3, 0} {
		removes(t, q, task, api.OK)
		if len(q.base) != q.order.Len() || len(q.base) != len(q.All()) {
			t.Errorf("%d tasks, %d base levels", q.order.Len(), len(q.base))
		}
	}
	adds(t, q, 3, -1, api.ErrArg)
	raises(t, q, 3, 1, api.ErrNone)
	if len(q.base) != 0 {
		t.Errorf("%d base levels, but no task", len(q.base))
	}
}

// TestQueuesAreApart: what is in one changes nothing of another.
func TestQueuesAreApart(t *testing.T) {
	a, b := made(t, api.Fixed), made(t, api.Fixed)
	c := made(t, api.Edf)
	puts(t, a, 1, 5, 2, 5)
	is(t, b)
	is(t, c)
	puts(t, b, 2, 6)
	puts(t, c, 2, 7)
	raises(t, a, 2, 1, api.OK)
	raises(t, c, 2, 1, api.ErrArg)
	is(t, b, 2, 6)
	is(t, c, 2, 7)
	removes(t, b, 2, api.OK)
	if q, err := New(0); q != nil || err != api.ErrArg {
		t.Errorf("New(0) = %v, %d", q, err)
	}
	is(t, a, 2, 1, 1, 5)
	is(t, c, 2, 7)
}

// P12.2

// TestOrderOfLevels: the smallest effective level first, over the whole range, in whatever order the tasks come.
func TestOrderOfLevels(t *testing.T) {
	for _, policy := range []int{api.Fixed, api.Edf} {
		for shift := range len(someLevels) {
			q := made(t, policy)
			want := make([]int, len(someLevels))
			for i := range someLevels {
				at := (i + shift) * 5 % len(someLevels) // 5 has no divisor with the number of levels
				puts(t, q, i, someLevels[at])
				want[at] = i
			}
			order(t, q, want...)
			for i, task := range want {
				level(t, q, task, someLevels[i])
				if got := q.First(); got != task {
					t.Errorf("First() = %d, want %d", got, task)
				}
				removes(t, q, task, api.OK)
			}
			is(t, q)
		}
	}
}

// TestOrderOfTasksOfOneLevel: by their numbers, not by when they were added, at every level.
func TestOrderOfTasksOfOneLevel(t *testing.T) {
	for _, policy := range []int{api.Fixed, api.Edf} {
		for _, level := range someLevels {
			inEveryOrder(4, func(tasks []int) {
				q := made(t, policy)
				for _, task := range tasks {
					adds(t, q, task, level, api.OK)
				}
				order(t, q, 0, 1, 2, 3)
			})
			q := made(t, policy)
			for task := lastOne; task >= 0; task-- {
				adds(t, q, task, level, api.OK)
			}
			order(t, q, upTo(api.MaxTasks)...)
		}
	}
}

// TestOrderOfRaisedTasksOfOneLevel: by their numbers too, not by when they were raised, nor by their base levels.
func TestOrderOfRaisedTasksOfOneLevel(t *testing.T) {
	for _, level := range someLevels {
		inEveryOrder(4, func(tasks []int) {
			q := made(t, api.Fixed)
			for task := range 4 {
				adds(t, q, task, someLevels[13-3*task], api.OK)
			}
			puts(t, q, 4, level, 5, level)
			for _, task := range tasks {
				raises(t, q, task, level, api.OK)
			}
			is(t, q, 0, level, 1, level, 2, level, 3, level, 4, level, 5, level)
		})
	}
}

// TestLevelBeforeRaising: a task that is raised comes behind one with a smaller level that is not, be it smaller by one.
func TestLevelBeforeRaising(t *testing.T) {
	for _, level := range someLevels[1:] {
		q := made(t, api.Fixed)
		puts(t, q, lastOne, level-1, 0, deepest, 1, level)
		raises(t, q, 0, level, api.OK)
		is(t, q, lastOne, level-1, 0, level, 1, level)
		raises(t, q, 0, level-1, api.OK)
		is(t, q, 0, level-1, lastOne, level-1, 1, level)
	}
}

// TestAnswersChangeNothing: First, Level and All may be asked as often as one likes.
func TestAnswersChangeNothing(t *testing.T) {
	q := made(t, api.Fixed)
	puts(t, q, 5, 1, 3, 2, 1, 2)
	raises(t, q, 3, 1, api.OK)
	for range 4 {
		is(t, q, 3, 1, 5, 1, 1, 2)
		for _, task := range noTasks {
			lacks(t, q, task)
		}
	}
	falls(t, q, 3, api.OK)
	is(t, q, 5, 1, 1, 2, 3, 2)
}

// TestAllIsNewMemory: what is written into a list, and into what is spare of it, is neither in the queue nor in another list.
func TestAllIsNewMemory(t *testing.T) {
	q := made(t, api.Fixed)
	puts(t, q, 5, 1, 3, 2, 1, 2)
	one, two := q.All(), q.All()
	for i := range one[:cap(one)] {
		one[:cap(one)][i] = 99
	}
	_ = append(one, 98)
	if !slices.Equal(two, []int{5, 1, 3}) {
		t.Errorf("a list has become %v", two)
	}
	is(t, q, 5, 1, 1, 2, 3, 2)
	removes(t, q, 5, api.OK)
	puts(t, q, 0, 0, 2, 0)
	if !slices.Equal(two, []int{5, 1, 3}) {
		t.Errorf("a list has become %v", two)
	}
}

// P12.3

// TestRaisedToTheLevelOfOthers: it comes before all of them, whatever the numbers of the tasks are; behind Fall, everything is as it was.
func TestRaisedToTheLevelOfOthers(t *testing.T) {
	for _, level := range someLevels {
		for _, base := range someLevels {
			for task := range api.MaxTasks {
				q := made(t, api.Fixed)
				for other := range api.MaxTasks {
					if other != task {
						adds(t, q, other, level, api.OK)
					}
				}
				adds(t, q, task, base, api.OK)
				before := q.All()
				raises(t, q, task, level, api.OK)
				others := slices.DeleteFunc(upTo(api.MaxTasks), func(x int) bool { return x == task })
				order(t, q, append([]int{task}, others...)...)
				falls(t, q, task, api.OK)
				order(t, q, before...)
			}
		}
	}
}

// TestRaisedToItsOwnLevel: it comes before the others of its base level.
func TestRaisedToItsOwnLevel(t *testing.T) {
	for _, level := range someLevels {
		q := made(t, api.Fixed)
		puts(t, q, 0, level, 1, level, 2, level)
		raises(t, q, 2, level, api.OK)
		is(t, q, 2, level, 0, level, 1, level)
		raises(t, q, 1, level, api.OK)
		is(t, q, 1, level, 2, level, 0, level)
		falls(t, q, 2, api.OK)
		is(t, q, 1, level, 0, level, 2, level)
		falls(t, q, 1, api.OK)
		is(t, q, 0, level, 1, level, 2, level)
	}
}

// TestFallsInEveryOrder: some tasks are raised in one order and fall in another, and in between each of them is where it would be without those that fell.
func TestFallsInEveryOrder(t *testing.T) {
	inEveryOrder(4, func(rising []int) {
		inEveryOrder(4, func(falling []int) {
			q, v := made(t, api.Fixed), &rival{policy: api.Fixed}
			for task := range 4 {
				adds(t, q, task, 2*(task/2), v.add(task, 2*(task/2)))
			}
			before := q.All()
			for i, task := range rising {
				raises(t, q, task, i%3, v.raise(task, i%3))
				order(t, q, v.all()...)
			}
			for _, task := range falling {
				falls(t, q, task, v.fall(task))
				order(t, q, v.all()...)
			}
			order(t, q, before...)
		})
	})
}

// entry is a task of the rival: its base level, and the levels that it was raised to since it was not raised.
type entry struct {
	task, base int
	raised     []int
}

// rival is another spelling of a queue: a list that is in no order, through which each answer is looked for.
type rival struct {
	policy int
	list   []entry
}

// find returns the position of a task; -1 if it is not there.
func (v *rival) find(task int) int {
	return slices.IndexFunc(v.list, func(e entry) bool { return e.task == task })
}

// wrong tells whether what Add is given is no task or no level.
func wrong(task, level int) bool {
	return task < 0 || task > 23 || level < 0 || level > 9007199254740991
}

func (v *rival) add(task, level int) api.Errno {
	if wrong(task, level) {
		return api.ErrArg
	}
	if v.find(task) >= 0 {
		return api.ErrExists
	}
	v.list = append(v.list, entry{task: task, base: level})
	return api.OK
}

func (v *rival) raise(task, level int) api.Errno {
	if wrong(task, level) || v.policy == api.Edf {
		return api.ErrArg
	}
	i := v.find(task)
	if i < 0 {
		return api.ErrNone
	}
	v.list[i].raised = append(v.list[i].raised, level)
	return api.OK
}

func (v *rival) fall(task int) api.Errno {
	i := v.find(task)
	if i < 0 {
		return api.ErrNone
	}
	v.list[i].raised = nil
	return api.OK
}

func (v *rival) remove(task int) api.Errno {
	i := v.find(task)
	if i < 0 {
		return api.ErrNone
	}
	v.list = slices.Delete(v.list, i, i+1)
	return api.OK
}

// effective returns the effective level of a task.
func (e entry) effective() int {
	if n := len(e.raised); n > 0 {
		return e.raised[n-1]
	}
	return e.base
}

// follows tells whether f comes before e.
func (e entry) follows(f entry) bool {
	if f.effective() != e.effective() {
		return f.effective() < e.effective()
	}
	if len(f.raised) > 0 && len(e.raised) == 0 {
		return true
	}
	if len(f.raised) == 0 && len(e.raised) > 0 {
		return false
	}
	return f.task < e.task
}

// all returns the tasks: each at the position that is the number of tasks that come before it.
func (v *rival) all() []int {
	tasks := make([]int, len(v.list))
	for _, e := range v.list {
		position := 0
		for _, f := range v.list {
			if e.follows(f) {
				position++
			}
		}
		tasks[position] = e.task
	}
	return tasks
}

// alike tells whether a queue answers what the rival does.
func alike(q *Queue, v *rival) bool {
	all := v.all()
	first := -1
	if len(all) > 0 {
		first = all[0]
	}
	if q.First() != first || !slices.Equal(q.All(), all) {
		return false
	}
	for task := -1; task <= api.MaxTasks; task++ {
		want, i := 0, v.find(task)
		if i >= 0 {
			want = v.list[i].effective()
		}
		if got, ok := q.Level(task); got != want || ok != (i >= 0) {
			return false
		}
	}
	return true
}

// Calls of a run.
const (
	add = iota
	raise
	fall
	remove
	calls // how many there are
)

// call is one of a run.
type call struct{ name, task, level int }

// does makes the call on both, and tells whether they answer the same.
func (c call) does(q *Queue, v *rival) bool {
	switch c.name {
	case add:
		return q.Add(c.task, c.level) == v.add(c.task, c.level)
	case raise:
		return q.Raise(c.task, c.level) == v.raise(c.task, c.level)
	case fall:
		return q.Fall(c.task) == v.fall(c.task)
	}
	return q.Remove(c.task) == v.remove(c.task)
}

// TestAllShortRuns goes through every run of some calls on two queues, from nothing and from some tasks, raised and not raised.
func TestAllShortRuns(t *testing.T) {
	list := []call{{add, 24, 1}, {raise, -1, 1}, {add, 0, -1}, {raise, 1, 1 << 53}}
	for task := range 3 {
		list = append(list, call{fall, task, 0}, call{remove, task, 0})
		for level := range 2 {
			list = append(list, call{add, task, level}, call{raise, task, level})
		}
	}
	heads := [][]call{
		nil,
		{{add, 0, 1}, {add, 1, 1}, {add, 2, 1}},
		{{add, 2, 0}, {add, 1, 1}, {raise, 2, 1}},
	}
	var run func(policy int, told []call, left int)
	run = func(policy int, told []call, left int) {
		for _, c := range list {
			now := append(slices.Clone(told), c)
			if left > 1 {
				run(policy, now, left-1)
				continue
			}
			q, v := made(t, policy), &rival{policy: policy}
			for i, c := range now {
				if !c.does(q, v) || !alike(q, v) {
					t.Fatalf("policy %d, calls %v: got %v, want %v", policy, now[:i+1], q.All(), v)
				}
			}
		}
	}
	for _, policy := range []int{api.Fixed, api.Edf} {
		for _, head := range heads {
			run(policy, head, 3)
		}
	}
}

func TestLongRuns(t *testing.T) {
	number := source()
	edges := []int{least, -1, 0, 1, lastOne, api.MaxTasks, deepest - 1, deepest, deepest + 1, most}
	for _, policy := range []int{api.Fixed, api.Edf} {
		for n := 1; n <= api.MaxTasks; n++ {
			q, v := made(t, policy), &rival{policy: policy}
			for i := range 3000 {
				c := call{number(calls), number(n), number(1 + n/2)}
				if number(8) == 0 {
					c.level = edges[number(len(edges))]
				}
				if number(40) == 0 {
					c.task = edges[number(len(edges))]
				}
				if c.name == remove && number(2) == 0 { // so that the queue fills
					c.name = add
				}
				if !c.does(q, v) || !alike(q, v) {
					t.Fatalf("policy %d, %d tasks, call %d: %v: got %v, want %v", policy, n, i, c, q.All(), v)
				}
			}
		}
	}
}

// TestOrderAsIfNeverRaised: one queue has tasks that are raised and fall, and a second one the same without it; when all have fallen, the two are alike.
func TestOrderAsIfNeverRaised(t *testing.T) {
	number := source()
	a, b := made(t, api.Fixed), made(t, api.Fixed)
	for i := range 2000 {
		for range number(6) {
			task, level := number(api.MaxTasks), number(9)
			if number(3) == 0 {
				removes(t, a, task, b.Remove(task))
			} else {
				adds(t, a, task, level, b.Add(task, level))
			}
			a.Raise(number(api.MaxTasks), number(9))
		}
		for task := range api.MaxTasks {
			falls(t, a, task, b.Fall(task))
		}
		if !slices.Equal(a.All(), b.All()) {
			t.Fatalf("round %d: %v, want %v", i, a.All(), b.All())
		}
		for _, task := range b.All() {
			want, _ := b.Level(task)
			level(t, a, task, want)
		}
	}
}

// Ways

// sources returns the files of the package that are no tests.
func sources(t *testing.T) map[string]*ast.File {
	t.Helper()
	names, err := filepath.Glob("*.go")
	if err != nil || len(names) == 0 {
		t.Fatal(names, err)
	}
	files := map[string]*ast.File{}
	for _, name := range names {
		if strings.HasSuffix(name, "_test.go") {
			continue
		}
		file, err := parser.ParseFile(token.NewFileSet(), name, nil, 0)
		if err != nil {
			t.Fatal(err)
		}
		files[name] = file
	}
	return files
}

// TestImports: the chapter lets the layer import heap and api only.
func TestImports(t *testing.T) {
	for name, file := range sources(t) {
		for _, i := range file.Imports {
			if path := i.Path.Value; path != `"tourbillon/api"` && path != `"tourbillon/heap"` {
				t.Errorf("%s imports %s", name, path)
			}
		}
	}
}

// TestKeysAreInTheOrderOfTheChapter: of two tasks that differ, the one with the smaller level has the smaller key, then the one that is raised, then the one with the smaller number; and a key has its level.
func TestKeysAreInTheOrderOfTheChapter(t *testing.T) {
	before, told := -1, 0
	for _, level := range someLevels {
		for _, raised := range []bool{true, false} {
			for task := range api.MaxTasks {
				key := keyOf(level, raised, task)
				if key <= before {
					t.Errorf("keyOf(%d, %v, %d) = %d, and the one before it is %d", level, raised, task, key, before)
				}
				if got := levelOf(key); got != level {
					t.Errorf("levelOf(%d) = %d, want %d", key, got, level)
				}
				before = key
				told++
			}
		}
	}
	if told != 2*len(someLevels)*api.MaxTasks {
		t.Errorf("%d keys", told)
	}
}

// TestKeysAreMadeByShifts: to the left where the parts are put together, to the right where the level is taken out again; and the queue finds a task in a map.
func TestKeysAreMadeByShifts(t *testing.T) {
	left, right, maps := 0, 0, 0
	for _, file := range sources(t) {
		ast.Inspect(file, func(n ast.Node) bool {
			switch x := n.(type) {
			case *ast.BinaryExpr:
				if x.Op == token.SHL {
					left++
				}
				if x.Op == token.SHR {
					right++
				}
			case *ast.MapType:
				maps++
			}
			return true
		})
	}
	if left == 0 || right == 0 || maps == 0 {
		t.Errorf("%d shifts to the left, %d to the right, %d maps", left, right, maps)
	}
}
