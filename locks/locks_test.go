package locks

import (
	"go/ast"
	"go/parser"
	"go/token"
	"path/filepath"
	"slices"
	"strings"
	"testing"

	"tourbillon/api"
)

const (
	most    = 1<<63 - 1
	least   = -1 << 63
	lastRes = api.MaxRes - 1   // the last resource
	lastOne = api.MaxTasks - 1 // the last task
)

// extremes are no resources and no tasks. Some of them have the lower bits of one.
var extremes = []int{most, most - 1, least, least + 1, least + 2, -1 << 31, -1 << 32, -1<<32 + 1, -1 << 53, 1 << 16, 1<<31 - 1, 1 << 31, 1 << 32, 1<<32 + 1, 1<<32 + 3, 1 << 53, 1 << 62, 1<<62 + 2}

// noTasks are numbers that are none.
var noTasks = append([]int{-1, -2, -api.MaxTasks, api.MaxTasks, api.MaxTasks + 1, 31, 32, 33, 64, 255, 256, 256 + 3}, extremes...)

// noResources are numbers that are none, however many resources there are.
var noResources = append([]int{-1, -2, -api.MaxRes, api.MaxRes, api.MaxRes + 1, 16, 17, 64, 255, 256, 256 + 3}, extremes...)

// made returns so many resources, with empty queues.
func made(t *testing.T, resources int) *Locks {
	t.Helper()
	l, err := New(resources)
	if err != api.OK || l == nil {
		t.Fatalf("New(%d) = %v, %d", resources, l, err)
	}
	return l
}

// asks holds that a task comes into a queue, behind so many tasks.
func asks(t *testing.T, l *Locks, res, task, want int) {
	t.Helper()
	if got, err := l.Ask(res, task); got != want || err != api.OK {
		t.Errorf("Ask(%d, %d) = %d, %d, want %d", res, task, got, err, want)
	}
}

// refused holds that a task does not come into a queue.
func refused(t *testing.T, l *Locks, res, task int, want api.Errno) {
	t.Helper()
	if got, err := l.Ask(res, task); got != 0 || err != want {
		t.Errorf("Ask(%d, %d) = %d, %d, want 0, %d", res, task, got, err, want)
	}
}

// frees holds which task holds a resource behind the one that frees it; -1: none.
func frees(t *testing.T, l *Locks, task, want int) {
	t.Helper()
	if got, err := l.Free(task); got != want || err != api.OK {
		t.Errorf("Free(%d) = %d, %d, want %d", task, got, err, want)
	}
}

// freesNone holds that a task holds nothing that it could free.
func freesNone(t *testing.T, l *Locks, task int) {
	t.Helper()
	if got, err := l.Free(task); got != 0 || err != api.ErrNone {
		t.Errorf("Free(%d) = %d, %d, want 0, ErrNone", task, got, err)
	}
}

// wants holds the answers about a task against the resource in whose queue it is, -1 if there is none, and whether it holds it.
func wants(t *testing.T, l *Locks, task, res int, has bool) {
	t.Helper()
	if got := l.Wants(task); got != res {
		t.Errorf("Wants(%d) = %d, want %d", task, got, res)
	}
	if got := l.Has(task); got != has {
		t.Errorf("Has(%d) = %v, want %v", task, got, has)
	}
}

// queue holds the answers about a resource against its queue.
func queue(t *testing.T, l *Locks, res int, tasks ...int) {
	t.Helper()
	if got := l.Queue(res); !slices.Equal(got, tasks) {
		t.Errorf("Queue(%d) = %v, want %v", res, got, tasks)
	}
	holder := -1
	if len(tasks) > 0 {
		holder = tasks[0]
	}
	if got := l.Holder(res); got != holder {
		t.Errorf("Holder(%d) = %d, want %d", res, got, holder)
	}
}

// is holds all that the resources answer against their queues.
func is(t *testing.T, l *Locks, queues ...[]int) {
	t.Helper()
	there := map[int]bool{}
	for res, tasks := range queues {
		queue(t, l, res, tasks...)
		for place, task := range tasks {
			wants(t, l, task, res, place == 0)
			there[task] = true
		}
	}
	queue(t, l, -1)
	queue(t, l, len(queues))
	for task := -1; task <= api.MaxTasks; task++ {
		if !there[task] {
			wants(t, l, task, -1, false)
		}
	}
}

// upTo returns the numbers from 0 to n - 1.
func upTo(n int) []int {
	l := make([]int, n)
	for i := range l {
		l[i] = i
	}
	return l
}

// nobody returns so many empty queues.
func nobody(resources int) [][]int { return make([][]int, resources) }

// source returns a function that returns a number less than n, in a fixed order.
func source() func(n int) int {
	state := uint64(1)
	return func(n int) int {
		state = state*6364136223846793005 + 1442695040888963407
		return int(state >> 33 % uint64(n))
	}
}

// P13.1

func TestExamplesOfTheChapter(t *testing.T) {
	l := made(t, 2)
	asks(t, l, 0, 5, 0)
	asks(t, l, 0, 2, 1)
	refused(t, l, 1, 5, api.ErrExists)
	is(t, l, []int{5, 2}, nil)
	freesNone(t, l, 2)
	frees(t, l, 5, 2)
	is(t, l, []int{2}, nil)
}

// TestNewEveryNumber: none, one, and so on up to MaxRes; no others.
func TestNewEveryNumber(t *testing.T) {
	for n := range api.MaxRes + 1 {
		is(t, made(t, n), nobody(n)...)
	}
	for _, n := range append([]int{-1, -2, -api.MaxRes, api.MaxRes + 1, api.MaxRes + 2, 16, 64, 255, 256, 256 + 8}, extremes...) {
		if l, err := New(n); l != nil || err != api.ErrArg {
			t.Errorf("New(%d) = %v, %d", n, l, err)
		}
	}
}

// TestNoResource: nobody can ask for any.
func TestNoResource(t *testing.T) {
	l := made(t, 0)
	for _, task := range append(upTo(api.MaxTasks), noTasks...) {
		for _, res := range append(upTo(api.MaxRes), noResources...) {
			refused(t, l, res, task, api.ErrArg)
		}
		wants(t, l, task, -1, false)
		freesNone(t, l, task)
	}
	for _, res := range append(upTo(api.MaxRes), noResources...) {
		queue(t, l, res)
	}
	is(t, l)
}

// TestAskEveryResourceAndTask: one task alone holds a resource, each that there is and no other one.
func TestAskEveryResourceAndTask(t *testing.T) {
	for n := range api.MaxRes + 1 {
		l := made(t, n)
		for task := range api.MaxTasks {
			for res := range n {
				asks(t, l, res, task, 0)
				queues := nobody(n)
				queues[res] = []int{task}
				is(t, l, queues...)
				frees(t, l, task, -1)
				is(t, l, nobody(n)...)
			}
			for res := n; res <= api.MaxRes; res++ {
				refused(t, l, res, task, api.ErrArg)
			}
			is(t, l, nobody(n)...)
		}
	}
}

// TestAskOfNone: what is no resource or no task is refused, whether the queues are empty or not, and nothing changes.
func TestAskOfNone(t *testing.T) {
	l := made(t, api.MaxRes)
	for _, step := range []func(){
		func() {},
		func() { asks(t, l, 0, 0, 0) },
		func() { asks(t, l, lastRes, lastOne, 0) },
		func() { asks(t, l, 0, 3, 1) },
	} {
		step()
		before := make([][]int, api.MaxRes)
		for res := range before {
			before[res] = l.Queue(res)
		}
		for _, task := range noTasks {
			for _, res := range append(upTo(api.MaxRes), noResources...) {
				refused(t, l, res, task, api.ErrArg)
			}
			wants(t, l, task, -1, false)
		}
		for task := range api.MaxTasks {
			for _, res := range noResources {
				refused(t, l, res, task, api.ErrArg)
			}
		}
		is(t, l, before...)
	}
}

// TestAskAgain: a task that holds a resource, or waits for one, is refused at that one and at every other one, and keeps its place.
func TestAskAgain(t *testing.T) {
	l := made(t, api.MaxRes)
	asks(t, l, 0, 0, 0)
	asks(t, l, 0, 3, 1)
	asks(t, l, 0, lastOne, 2)
	asks(t, l, lastRes, 7, 0)
	asks(t, l, lastRes, 5, 1)
	queues := nobody(api.MaxRes)
	queues[0], queues[lastRes] = []int{0, 3, lastOne}, []int{7, 5}
	is(t, l, queues...)
	for _, task := range []int{0, 3, lastOne, 7, 5} {
		for res := range api.MaxRes {
			refused(t, l, res, task, api.ErrExists)
			is(t, l, queues...)
		}
	}
	asks(t, l, 0, 1, 3)
	asks(t, l, lastRes, 2, 2)
	asks(t, l, 3, 4, 0)
}

// TestErrArgComesFirst: also of a task that is in a queue already, be it the holder's or another one's.
func TestErrArgComesFirst(t *testing.T) {
	l := made(t, 2)
	asks(t, l, 0, 5, 0)
	asks(t, l, 0, 2, 1)
	for _, res := range append([]int{2, 3, lastRes}, noResources...) {
		refused(t, l, res, 5, api.ErrArg)
		refused(t, l, res, 2, api.ErrArg)
	}
	is(t, l, []int{5, 2}, nil)
}

// TestRefusedAskIsForgotten: the task is in no queue behind it, and asks as if it had not been refused.
func TestRefusedAskIsForgotten(t *testing.T) {
	l := made(t, 2)
	asks(t, l, 0, 5, 0)
	asks(t, l, 0, 2, 1)
	refused(t, l, 1, 2, api.ErrExists)
	refused(t, l, 2, 3, api.ErrArg)
	refused(t, l, -1, 3, api.ErrArg)
	is(t, l, []int{5, 2}, nil)
	asks(t, l, 1, 3, 0)
	frees(t, l, 5, 2)
	frees(t, l, 2, -1)
	is(t, l, nil, []int{3})
	asks(t, l, 1, 2, 1)
	is(t, l, nil, []int{3, 2})
}

// TestAllTasksInOneQueue: each resource has room for all MaxTasks tasks, whatever their order; each of them frees it in its turn.
func TestAllTasksInOneQueue(t *testing.T) {
	for res := range api.MaxRes {
		l := made(t, api.MaxRes)
		for _, step := range []int{1, 5, 7, 11, 13, 17, 19, 23} { // they have no divisor with MaxTasks
			queues := nobody(api.MaxRes)
			for i := range api.MaxTasks {
				task := (i*step + step) % api.MaxTasks
				asks(t, l, res, task, i)
				queues[res] = append(queues[res], task)
				is(t, l, queues...)
			}
			refused(t, l, res, api.MaxTasks, api.ErrArg)
			for task := range api.MaxTasks {
				refused(t, l, res, task, api.ErrExists)
			}
			is(t, l, queues...)
			for len(queues[res]) > 0 {
				for _, task := range queues[res][1:] {
					freesNone(t, l, task)
				}
				next := -1
				if len(queues[res]) > 1 {
					next = queues[res][1]
				}
				frees(t, l, queues[res][0], next)
				queues[res] = queues[res][1:]
				is(t, l, queues...)
			}
		}
	}
}

// TestAllTasksInAllQueues: what is asked of one resource counts nothing at another one.
func TestAllTasksInAllQueues(t *testing.T) {
	l := made(t, api.MaxRes)
	queues := nobody(api.MaxRes)
	for task := range api.MaxTasks {
		res := task * 3 % api.MaxRes
		asks(t, l, res, task, task/api.MaxRes)
		queues[res] = append(queues[res], task)
		is(t, l, queues...)
	}
	for task := range api.MaxTasks {
		for res := range api.MaxRes {
			refused(t, l, res, task, api.ErrExists)
		}
	}
	is(t, l, queues...)
	for task := range api.MaxTasks {
		next := task + api.MaxRes
		if next > lastOne {
			next = -1
		}
		frees(t, l, task, next)
		res := task * 3 % api.MaxRes
		queues[res] = queues[res][1:]
		is(t, l, queues...)
	}
}

// TestLocksAreApart: what is asked of one changes nothing of another.
func TestLocksAreApart(t *testing.T) {
	a, b, c := made(t, 2), made(t, 2), made(t, 1)
	asks(t, a, 0, 5, 0)
	asks(t, a, 0, 2, 1)
	is(t, b, nil, nil)
	is(t, c, nil)
	asks(t, b, 0, 2, 0)
	asks(t, b, 1, 5, 0)
	asks(t, c, 0, 5, 0)
	frees(t, b, 2, -1)
	freesNone(t, c, 2)
	if l, err := New(-1); l != nil || err != api.ErrArg {
		t.Errorf("New(-1) = %v, %d", l, err)
	}
	is(t, a, []int{5, 2}, nil)
	is(t, b, nil, []int{5})
	is(t, c, []int{5})
}

// P13.2

// TestHolderAndQueueOfNone: of no such resource there is no task, whatever the others have.
func TestHolderAndQueueOfNone(t *testing.T) {
	for n := range api.MaxRes + 1 {
		l := made(t, n)
		for range 2 {
			for _, res := range append(upTo(api.MaxRes + 1)[n:], noResources...) {
				queue(t, l, res)
			}
			for res := range n {
				l.Ask(res, res)
				l.Ask(res, lastOne-res)
			}
		}
	}
}

// TestTaskInNoQueue: it wants nothing, holds nothing and frees nothing, and so does a number that is no task; before the others asked, while they wait, and when all have gone.
func TestTaskInNoQueue(t *testing.T) {
	l := made(t, 2)
	others := func(there ...int) {
		t.Helper()
		for _, task := range append(upTo(api.MaxTasks), noTasks...) {
			if !slices.Contains(there, task) {
				wants(t, l, task, -1, false)
				freesNone(t, l, task)
				wants(t, l, task, -1, false)
			}
		}
	}
	others()
	asks(t, l, 0, 0, 0)
	others(0)
	asks(t, l, 1, lastOne, 0)
	asks(t, l, 1, 3, 1)
	others(0, 3, lastOne)
	is(t, l, []int{0}, []int{lastOne, 3})
	frees(t, l, 0, -1)
	others(3, lastOne)
	frees(t, l, lastOne, 3)
	others(3)
	is(t, l, nil, []int{3})
	frees(t, l, 3, -1)
	others()
	is(t, l, nil, nil)
}

// TestFreeOfOneThatWaits: it is refused, at every place in the queue, and nothing changes.
func TestFreeOfOneThatWaits(t *testing.T) {
	l := made(t, 1)
	for i := range api.MaxTasks {
		asks(t, l, 0, lastOne-i, i)
		for range 2 {
			for place := range i {
				freesNone(t, l, lastOne-place-1)
			}
		}
	}
	tasks := upTo(api.MaxTasks)
	slices.Reverse(tasks)
	is(t, l, tasks)
	frees(t, l, lastOne, lastOne-1)
	freesNone(t, l, lastOne)
	frees(t, l, lastOne-1, lastOne-2)
	is(t, l, tasks[2:])
}

// TestFreeOfTheLastOne: the resource is held by none then, and the next one that asks holds it, be it the same task or another one.
func TestFreeOfTheLastOne(t *testing.T) {
	l := made(t, 2)
	for round := range 100 {
		task, other := round%api.MaxTasks, (round+1)%api.MaxTasks
		asks(t, l, 0, task, 0)
		frees(t, l, task, -1)
		is(t, l, nil, nil)
		freesNone(t, l, task)
		asks(t, l, 0, task, 0)
		asks(t, l, 0, other, 1)
		frees(t, l, task, other)
		is(t, l, []int{other}, nil)
		asks(t, l, 0, task, 1)
		frees(t, l, other, task)
		asks(t, l, 1, other, 0)
		is(t, l, []int{task}, []int{other})
		frees(t, l, task, -1)
		asks(t, l, 1, task, 1)
		is(t, l, nil, []int{other, task})
		frees(t, l, other, task)
		frees(t, l, task, -1)
	}
}

// TestTaskZeroIsATask: that it holds a resource, or comes next, is not taken for an empty queue; nor resource 0 for none.
func TestTaskZeroIsATask(t *testing.T) {
	l := made(t, 1)
	asks(t, l, 0, 0, 0)
	is(t, l, []int{0})
	asks(t, l, 0, 1, 1)
	frees(t, l, 0, 1)
	asks(t, l, 0, 0, 1)
	wants(t, l, 0, 0, false)
	frees(t, l, 1, 0)
	is(t, l, []int{0})
	frees(t, l, 0, -1)
	is(t, l, nil)
}

// TestAnswersChangeNothing: Holder, Wants, Has and Queue may be asked as often as one likes.
func TestAnswersChangeNothing(t *testing.T) {
	l := made(t, 3)
	asks(t, l, 0, 5, 0)
	asks(t, l, 0, 2, 1)
	asks(t, l, 2, 0, 0)
	for range 4 {
		is(t, l, []int{5, 2}, nil, []int{0})
		for _, task := range noTasks {
			wants(t, l, task, -1, false)
		}
		for _, res := range noResources {
			queue(t, l, res)
		}
	}
	frees(t, l, 5, 2)
	is(t, l, []int{2}, nil, []int{0})
}

// TestQueueIsNewMemory: what is written into a queue that was returned, and into what is spare of it, is in no resource and in no other list.
func TestQueueIsNewMemory(t *testing.T) {
	for n := range api.MaxTasks + 1 {
		l := made(t, 1)
		for task := range n {
			asks(t, l, 0, task, task)
		}
		one, two := l.Queue(0), l.Queue(0)
		for i := range one[:cap(one)] {
			one[:cap(one)][i] = 99
		}
		_ = append(one, 98)
		if !slices.Equal(two, upTo(n)) {
			t.Errorf("a list of %d tasks has become %v", n, two)
		}
		is(t, l, upTo(n))
		if n == 0 {
			continue
		}
		l.Free(0)
		asks(t, l, 0, 0, n-1)
		if !slices.Equal(two, upTo(n)) {
			t.Errorf("a list of %d tasks has become %v", n, two)
		}
		is(t, l, append(upTo(n)[1:], 0))
	}
}

// TestNothingIsKeptOfATaskThatIsGone: what is kept is of the tasks that are in a queue.
func TestNothingIsKeptOfATaskThatIsGone(t *testing.T) {
	l := made(t, 2)
	asks(t, l, 0, 5, 0)
	asks(t, l, 0, 2, 1)
	asks(t, l, 1, 7, 0)
	for left, task := range []int{7, 5, 2} {
		l.Free(task)
		if n := len(l.Queue(0)) + len(l.Queue(1)); len(l.wants) != n || n != 2-left {
			t.Errorf("%d tasks in queues, %d in the map", n, len(l.wants))
		}
	}
	refused(t, l, 2, 5, api.ErrArg)
	refused(t, l, 0, -1, api.ErrArg)
	freesNone(t, l, 5)
	wants(t, l, 2, -1, false)
	if len(l.wants) != 0 {
		t.Errorf("%d in the map, but no task", len(l.wants))
	}
}

// P13.3

// rival is another spelling of the resources: one list of who asked for what, through which each answer is looked for.
type rival struct {
	resources int
	list      [][2]int // a resource and a task, in the order in which they asked
}

// tasks returns who asked for a resource.
func (v *rival) tasks(res int) []int {
	var tasks []int
	for _, pair := range v.list {
		if pair[0] == res {
			tasks = append(tasks, pair[1])
		}
	}
	return tasks
}

// find returns the position of a task; -1 if it is not there.
func (v *rival) find(task int) int {
	return slices.IndexFunc(v.list, func(pair [2]int) bool { return pair[1] == task })
}

// wants returns the resource that a task asked for; -1 if there is none.
func (v *rival) wants(task int) int {
	i := v.find(task)
	if i < 0 {
		return -1
	}
	return v.list[i][0]
}

// holder returns the first one that asked for a resource; -1 if there is none.
func (v *rival) holder(res int) int {
	if tasks := v.tasks(res); len(tasks) > 0 {
		return tasks[0]
	}
	return -1
}

// has tells whether a task is the first one that asked for its resource.
func (v *rival) has(task int) bool {
	i := v.find(task)
	return i >= 0 && v.holder(v.list[i][0]) == task
}

func (v *rival) ask(res, task int) (int, api.Errno) {
	if res < 0 || res >= v.resources || task < 0 || task > 23 {
		return 0, api.ErrArg
	}
	if v.find(task) >= 0 {
		return 0, api.ErrExists
	}
	before := len(v.tasks(res))
	v.list = append(v.list, [2]int{res, task})
	return before, api.OK
}

func (v *rival) free(task int) (int, api.Errno) {
	if !v.has(task) {
		return 0, api.ErrNone
	}
	i := v.find(task)
	res := v.list[i][0]
	v.list = slices.Delete(v.list, i, i+1)
	return v.holder(res), api.OK
}

// alike tells whether the resources answer what the rival does.
func alike(l *Locks, v *rival) bool {
	for res := -1; res <= v.resources; res++ {
		if !slices.Equal(l.Queue(res), v.tasks(res)) || l.Holder(res) != v.holder(res) {
			return false
		}
	}
	for task := -1; task <= api.MaxTasks; task++ {
		if l.Wants(task) != v.wants(task) || l.Has(task) != v.has(task) {
			return false
		}
	}
	return true
}

// call is one of a run: of Ask, or of Free, which has no resource.
type call struct {
	free      bool
	res, task int
}

// does makes the call on both, and tells whether they answer the same.
func (c call) does(l *Locks, v *rival) bool {
	if c.free {
		got, err := l.Free(c.task)
		want, wrong := v.free(c.task)
		return got == want && err == wrong
	}
	got, err := l.Ask(c.res, c.task)
	want, wrong := v.ask(c.res, c.task)
	return got == want && err == wrong
}

// TestAllShortRuns goes through every run of some calls, on one resource and on two, from empty queues and from some with tasks.
func TestAllShortRuns(t *testing.T) {
	heads := [][]call{
		nil,
		{{res: 0, task: 0}, {res: 0, task: 1}, {res: 0, task: 2}},
		{{res: 0, task: 2}, {res: 1, task: 1}, {res: 0, task: 0}},
	}
	for resources := 1; resources <= 2; resources++ {
		list := []call{{res: -1, task: 1}, {res: resources, task: 0}, {res: 0, task: 24}, {res: 0, task: -1}, {free: true, task: -1}}
		for task := range 3 {
			list = append(list, call{free: true, task: task})
			for res := range resources {
				list = append(list, call{res: res, task: task})
			}
		}
		var run func(told []call, left int)
		run = func(told []call, left int) {
			for _, c := range list {
				now := append(slices.Clone(told), c)
				if left > 1 {
					run(now, left-1)
					continue
				}
				l, v := made(t, resources), &rival{resources: resources}
				for i, c := range now {
					if !c.does(l, v) || !alike(l, v) {
						t.Fatalf("%d resources, calls %v: want %v", resources, now[:i+1], v.list)
					}
				}
			}
		}
		for _, head := range heads {
			run(head, 4)
		}
	}
}

// drawn returns some call on so many resources and tasks, now and then one with a number at an edge.
func drawn(number func(n int) int, resources, tasks int) call {
	edges := []int{least, -1, 0, 1, lastRes, api.MaxRes, lastOne, api.MaxTasks, 1 << 32, most}
	c := call{free: number(2) == 0, res: number(max(resources, 1)), task: number(tasks)}
	if number(30) == 0 {
		c.res = edges[number(len(edges))]
	}
	if number(30) == 0 {
		c.task = edges[number(len(edges))]
	}
	return c
}

func TestLongRuns(t *testing.T) {
	number := source()
	for resources := range api.MaxRes + 1 {
		for tasks := 1; tasks <= api.MaxTasks; tasks++ {
			l, v := made(t, resources), &rival{resources: resources}
			for i := range 1000 {
				c := drawn(number, resources, tasks)
				if !c.does(l, v) || !alike(l, v) {
					t.Fatalf("%d resources, %d tasks, call %d: %v: want %v", resources, tasks, i, c, v.list)
				}
			}
		}
	}
}

// TestTasksObtainInTheOrderOfAsking: a resource goes to those that asked for it, one by one, and none is passed over; what Ask and Free answer is what tells it.
func TestTasksObtainInTheOrderOfAsking(t *testing.T) {
	number := source()
	for resources := 1; resources <= api.MaxRes; resources++ {
		l := made(t, resources)
		asked, obtained := nobody(resources), nobody(resources)
		for i := range 20000 {
			c := drawn(number, resources, api.MaxTasks)
			res := l.Wants(c.task)
			if c.free {
				if next, err := l.Free(c.task); err == api.OK && next >= 0 {
					obtained[res] = append(obtained[res], next)
				}
			} else if before, err := l.Ask(c.res, c.task); err == api.OK {
				asked[c.res] = append(asked[c.res], c.task)
				if before == 0 {
					obtained[c.res] = append(obtained[c.res], c.task)
				}
			}
			for res := range resources {
				n := len(obtained[res])
				if n > 0 && obtained[res][n-1] != asked[res][n-1] {
					t.Fatalf("%d resources, call %d: resource %d was obtained by %d, not by %d", resources, i, res, obtained[res][n-1], asked[res][n-1])
				}
			}
		}
		for res := range resources {
			if !slices.Equal(obtained[res], asked[res][:len(obtained[res])]) || len(obtained[res]) < 100 {
				t.Errorf("%d resources: resource %d was obtained %d times in another order", resources, res, len(obtained[res]))
			}
		}
	}
}

// TestHeldByOneAtMost: of each resource at most one task has it, that is its holder, and every other one in its queue waits; no task is in two queues.
func TestHeldByOneAtMost(t *testing.T) {
	number := source()
	l := made(t, api.MaxRes)
	for i := range 20000 {
		c := drawn(number, api.MaxRes, api.MaxTasks)
		if c.free {
			l.Free(c.task)
		} else {
			l.Ask(c.res, c.task)
		}
		var holders [api.MaxRes][]int
		for task := range api.MaxTasks {
			if l.Has(task) {
				res := l.Wants(task)
				holders[res] = append(holders[res], task)
			}
		}
		seen := map[int]bool{}
		for res, tasks := range holders {
			queue := l.Queue(res)
			if len(tasks) != min(1, len(queue)) || len(tasks) == 1 && (tasks[0] != l.Holder(res) || tasks[0] != queue[0]) {
				t.Fatalf("call %d: resource %d is held by %v, its queue is %v", i, res, tasks, queue)
			}
			for _, task := range queue {
				if seen[task] || l.Wants(task) != res {
					t.Fatalf("call %d: task %d is in the queue of %d, and in another one", i, task, res)
				}
				seen[task] = true
			}
		}
	}
}

// Ways

// sources returns the files of the package that are no tests.
func sources(t *testing.T) map[string]*ast.File {
	t.Helper()
	names, err := filepath.Glob("*.go")
	if err != nil || len(names) == 0 {
		t.Fatal(names, err)
	}
	files := map[string]*ast.File{}
	for _, name := range names {
		if strings.HasSuffix(name, "_test.go") {
			continue
		}
		file, err := parser.ParseFile(token.NewFileSet(), name, nil, 0)
		if err != nil {
			t.Fatal(err)
		}
		files[name] = file
	}
	return files
}

// TestImports: the chapter lets the layer import ring and api only.
func TestImports(t *testing.T) {
	for name, file := range sources(t) {
		for _, i := range file.Imports {
			if path := i.Path.Value; path != `"tourbillon/api"` && path != `"tourbillon/ring"` {
				t.Errorf("%s imports %s", name, path)
			}
		}
	}
}

// TestResourceIsFoundInAMap: what a task wants is in a map, from which it is deleted, and the queues are in a slice of pointers.
func TestResourceIsFoundInAMap(t *testing.T) {
	maps, deletes, pointers := 0, 0, 0
	for _, file := range sources(t) {
		ast.Inspect(file, func(n ast.Node) bool {
			switch x := n.(type) {
			case *ast.MapType:
				maps++
			case *ast.ArrayType:
				if _, ok := x.Elt.(*ast.StarExpr); ok && x.Len == nil {
					pointers++
				}
			case *ast.CallExpr:
				if name, ok := x.Fun.(*ast.Ident); ok && name.Name == "delete" {
					deletes++
				}
			}
			return true
		})
	}
	if maps == 0 || deletes == 0 || pointers == 0 {
		t.Errorf("%d maps, %d deletes, %d slices of pointers", maps, deletes, pointers)
	}
}
