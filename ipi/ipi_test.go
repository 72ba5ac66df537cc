package ipi

import (
	"go/ast"
	"go/parser"
	"go/token"
	"maps"
	"path/filepath"
	"slices"
	"strings"
	"testing"

	"tourbillon/api"
)

const (
	most   = 1<<63 - 1
	least  = -1 << 63
	latest = 1<<53 - 1 // the last tick at which a note may be sent
)

// extremes are no counts of cores, no cores, no tasks and no ticks at which a note may be sent. Some of them have the lower bits of one.
var extremes = []int{most, most - 1, least, least + 1, least + 2, -1 << 31, -1 << 32, -1<<32 + 1, -1 << 53, 1 << 53, 1<<53 + 1, 1 << 62, 1<<62 + 2}

// noTasks are numbers that are none.
var noTasks = append([]int{-1, -2, -api.MaxTasks, api.MaxTasks, api.MaxTasks + 1, 2 * api.MaxTasks, 32, 64, 1 << 8, 1<<8 + 5, 1 << 32}, extremes...)

// noTicks are numbers at which no note may be sent.
var noTicks = append([]int{-1, -2, -50, -latest}, extremes...)

// noCores returns numbers that are none of n cores.
func noCores(n int) []int {
	return append([]int{-1, -2, -n, n, n + 1, 2 * n, 64, 1 << 8, 1<<8 + n - 1, 1 << 32, 1<<32 + n - 1}, extremes...)
}

// made returns the mailboxes of n cores.
func made(t *testing.T, n int) *Boxes {
	t.Helper()
	b, err := New(n)
	if err != api.OK || b == nil {
		t.Fatalf("New(%d) = %v, %d", n, b, err)
	}
	return b
}

// sends holds the answer of Send against the one that is wanted.
func sends(t *testing.T, b *Boxes, core, task, now, latency int, want bool) {
	t.Helper()
	if got := b.Send(core, task, now, latency); got != want {
		t.Errorf("Send(%d, %d, %d, %d) = %v, want %v", core, task, now, latency, got, want)
	}
}

// puts sends notes into one mailbox, so that each of them is due at its tick: tasks and ticks by turns.
func puts(t *testing.T, b *Boxes, core int, pairs ...int) {
	t.Helper()
	for i := 0; i < len(pairs); i += 2 {
		sends(t, b, core, pairs[i], pairs[i+1]-1, 1, true)
	}
}

// takes holds what Take returns against the tasks that are wanted, and none of them is in the mailbox then.
func takes(t *testing.T, b *Boxes, core, now int, want ...int) {
	t.Helper()
	if got := b.Take(core, now); !slices.Equal(got, want) {
		t.Errorf("Take(%d, %d) = %v, want %v", core, now, got, want)
	}
	for _, task := range want {
		due(t, b, core, task, -1)
	}
}

// due holds what Due returns against what is wanted.
func due(t *testing.T, b *Boxes, core, task, want int) {
	t.Helper()
	if got := b.Due(core, task); got != want {
		t.Errorf("Due(%d, %d) = %d, want %d", core, task, got, want)
	}
}

// length holds what Len returns against what is wanted.
func length(t *testing.T, b *Boxes, core, want int) {
	t.Helper()
	if got := b.Len(core); got != want {
		t.Errorf("Len(%d) = %d, want %d", core, got, want)
	}
}

// holds holds a mailbox against all the notes that are wanted there: tasks and ticks by turns.
func holds(t *testing.T, b *Boxes, core int, pairs ...int) {
	t.Helper()
	length(t, b, core, len(pairs)/2)
	ticks := map[int]int{}
	for i := 0; i < len(pairs); i += 2 {
		ticks[pairs[i]] = pairs[i+1]
	}
	for task := -1; task <= api.MaxTasks; task++ {
		want, ok := ticks[task]
		if !ok {
			want = -1
		}
		due(t, b, core, task, want)
	}
}

// upTo returns the numbers from 0 to n - 1.
func upTo(n int) []int {
	l := make([]int, n)
	for i := range l {
		l[i] = i
	}
	return l
}

// inEveryOrder calls f with every order of the numbers from 0 to n - 1.
func inEveryOrder(n int, f func(order []int)) {
	var more func(order, left []int)
	more = func(order, left []int) {
		if len(left) == 0 {
			f(slices.Clone(order))
		}
		for i, x := range left {
			more(append(slices.Clone(order), x), slices.Delete(slices.Clone(left), i, i+1))
		}
	}
	more(nil, upTo(n))
}

// source returns a function that returns a number less than n, in a fixed order.
func source() func(n int) int {
	state := uint64(1)
	return func(n int) int {
		state = state*6364136223846793005 + 1442695040888963407
		return int(state >> 33 % uint64(n))
	}
}

// P10.1

func TestExamplesOfTheChapter(t *testing.T) {
	b := made(t, 1)
	sends(t, b, 0, 5, 10, 3, true)
	sends(t, b, 0, 5, 10, 1, false)
	sends(t, b, 0, 2, 11, 2, true)
	takes(t, b, 0, 12)
	takes(t, b, 0, 13, 5, 2)

	b = made(t, 1)
	sends(t, b, 0, 1, 5, 99, true)
	due(t, b, 0, 1, 55)
}

func TestNewHowMany(t *testing.T) {
	for n := 1; n <= api.MaxCores; n++ {
		b := made(t, n)
		for core := range n {
			holds(t, b, core)
			takes(t, b, core, most)
			sends(t, b, core, 0, 0, 1, true)
		}
		sends(t, b, n, 0, 0, 1, false)
	}
	for _, n := range append([]int{0, -1, -2, -api.MaxCores, api.MaxCores + 1, 16, 64, 1 << 8, 1<<8 + 1, 1 << 32, 1<<32 + 1}, extremes...) {
		if b, err := New(n); b != nil || err != api.ErrArg {
			t.Errorf("New(%d) = %v, %d", n, b, err)
		}
	}
}

// TestSendToEveryPlace: each note goes into one mailbox, for one task.
func TestSendToEveryPlace(t *testing.T) {
	for n := 1; n <= api.MaxCores; n++ {
		for core := range n {
			for task := range api.MaxTasks {
				b := made(t, n)
				sends(t, b, core, task, 7, 4, true)
				for other := range n {
					if other != core {
						holds(t, b, other)
						takes(t, b, other, most)
					}
				}
				holds(t, b, core, task, 11)
				takes(t, b, core, 11, task)
				holds(t, b, core)
			}
		}
	}
}

func TestSendToNoCore(t *testing.T) {
	for n := 1; n <= api.MaxCores; n++ {
		b := made(t, n)
		puts(t, b, n-1, 3, 9)
		for _, core := range noCores(n) {
			for _, task := range []int{0, 3, 4, api.MaxTasks - 1, api.MaxTasks, -1} {
				sends(t, b, core, task, 5, 1, false)
				due(t, b, core, task, -1)
			}
			length(t, b, core, 0)
			takes(t, b, core, most)
		}
		for core := range n - 1 {
			holds(t, b, core)
		}
		holds(t, b, n-1, 3, 9)
	}
}

func TestSendForNoTask(t *testing.T) {
	for n := 1; n <= api.MaxCores; n++ {
		b := made(t, n)
		puts(t, b, 0, 0, 9, api.MaxTasks-1, 8)
		for core := range n {
			for _, task := range noTasks {
				sends(t, b, core, task, 5, 1, false)
				due(t, b, core, task, -1)
			}
			if core > 0 {
				holds(t, b, core)
			}
		}
		holds(t, b, 0, 0, 9, api.MaxTasks-1, 8)
		takes(t, b, 0, most, api.MaxTasks-1, 0)
	}
}

func TestSendAtEveryEdgeOfNow(t *testing.T) {
	for _, now := range []int{0, 1, 2, 1 << 31, 1<<31 - 1, 1 << 32, 1 << 40, 1 << 52, latest - 50, latest - 1, latest} {
		for _, latency := range []int{1, 2, api.MaxLatency} {
			b := made(t, 2)
			sends(t, b, 1, 6, now, latency, true)
			holds(t, b, 0)
			holds(t, b, 1, 6, now+latency)
			takes(t, b, 1, now+latency-1)
			takes(t, b, 1, now+latency, 6)
		}
	}
	b := made(t, 2)
	for round := range 2 {
		for _, now := range noTicks {
			for _, latency := range []int{1, api.MaxLatency, 0, -now, -latest, latest, most, least} {
				sends(t, b, 1, 6, now, latency, false)
				sends(t, b, 1, 7, now, latency, false)
			}
		}
		length(t, b, 1, round)
		if round == 0 {
			sends(t, b, 1, 6, latest, 50, true)
		}
	}
	holds(t, b, 1, 6, latest+50)
}

// TestNowGoesBack: a note may be sent at an earlier tick than one before it, and taken at one.
func TestNowGoesBack(t *testing.T) {
	b := made(t, 1)
	sends(t, b, 0, 1, 100, 1, true)
	sends(t, b, 0, 2, 5, 1, true)
	sends(t, b, 0, 3, latest, 1, true)
	sends(t, b, 0, 4, 0, 1, true)
	takes(t, b, 0, 200, 4, 2, 1)
	sends(t, b, 0, 1, 0, 2, true)
	takes(t, b, 0, 1)
	takes(t, b, 0, 2, 1)
	holds(t, b, 0, 3, latest+1)
}

func TestEveryLatency(t *testing.T) {
	for _, now := range []int{0, 10, latest} {
		for latency := -120; latency <= 300; latency++ {
			want := min(max(latency, 1), 50)
			b := made(t, 1)
			sends(t, b, 0, 0, now, latency, true)
			holds(t, b, 0, 0, now+want)
		}
		for _, latency := range extremes {
			b := made(t, 1)
			sends(t, b, 0, 23, now, latency, true)
			want := now + 50
			if latency < 0 {
				want = now + 1
			}
			holds(t, b, 0, 23, want)
			takes(t, b, 0, want-1)
			takes(t, b, 0, want, 23)
		}
	}
}

// TestSecondNote: it is refused in the same mailbox, be it due earlier or later, and the first one stays as it was.
func TestSecondNote(t *testing.T) {
	b := made(t, 3)
	sends(t, b, 0, 5, 10, 3, true)
	for _, now := range []int{0, 9, 10, 11, 12, 13, 99, latest} {
		for _, latency := range []int{1, 2, 3, 4, 50} {
			sends(t, b, 0, 5, now, latency, false)
		}
	}
	holds(t, b, 0, 5, 13)
	sends(t, b, 1, 5, 10, 1, true)
	sends(t, b, 2, 5, 2, 50, true)
	sends(t, b, 1, 5, 10, 1, false)
	holds(t, b, 0, 5, 13)
	holds(t, b, 1, 5, 11)
	holds(t, b, 2, 5, 52)
	takes(t, b, 1, most, 5)
	holds(t, b, 0, 5, 13)
	holds(t, b, 2, 5, 52)
	takes(t, b, 0, most, 5)
	takes(t, b, 0, most)
	takes(t, b, 2, most, 5)
}

// TestSendAgain: a note that was taken is none any more; one that Take left is.
func TestSendAgain(t *testing.T) {
	b := made(t, 2)
	for now := 0; now < 100; now += 10 {
		sends(t, b, 1, 9, now, 5, true)
		takes(t, b, 1, now+4)
		sends(t, b, 1, 9, now, 1, false)
		takes(t, b, 1, now+5, 9)
		takes(t, b, 1, now+5)
		sends(t, b, 1, 9, now+1, 1, true)
		holds(t, b, 1, 9, now+2)
		takes(t, b, 1, now+9, 9)
	}
	sends(t, b, 1, 9, 3, 1, true) // at a tick that is over
	takes(t, b, 1, 4, 9)
	holds(t, b, 1)
}

// TestRefusedNotesHaveNoTurn: what is refused changes no order, nor does a note that was taken.
func TestRefusedNotesHaveNoTurn(t *testing.T) {
	b := made(t, 2)
	puts(t, b, 0, 5, 20, 2, 20)
	sends(t, b, 0, 5, 19, 1, false)
	puts(t, b, 0, 1, 20)
	sends(t, b, 0, 2, 10, 1, false)
	sends(t, b, 0, 24, 19, 1, false)
	sends(t, b, 2, 3, 19, 1, false)
	takes(t, b, 0, 20, 5, 2, 1)
	puts(t, b, 0, 2, 20, 1, 20, 5, 20)
	takes(t, b, 0, 20, 2, 1, 5)
}

func TestBoxesAreApart(t *testing.T) {
	a, b := made(t, 2), made(t, 2)
	puts(t, a, 0, 1, 5, 2, 6)
	puts(t, b, 0, 2, 9)
	holds(t, a, 0, 1, 5, 2, 6)
	holds(t, b, 0, 2, 9)
	takes(t, b, 0, 9, 2)
	holds(t, a, 0, 1, 5, 2, 6)
	takes(t, a, 0, 9, 1, 2)
	if c, err := New(0); c != nil || err != api.ErrArg {
		t.Errorf("New(0) = %v, %d", c, err)
	}
	puts(t, b, 1, 4, 9)
	holds(t, a, 1)
}

// P10.2

// TestTakeAheadAtAndBehind: the tick, of one note among others.
func TestTakeAheadAtAndBehind(t *testing.T) {
	for _, now := range []int{20, 21, 22, 69, 70, 71, 1 << 32, latest, latest + 50, most} {
		b := made(t, 1)
		sends(t, b, 0, 3, 20, 50, true)
		sends(t, b, 0, 4, 20, 1, true)
		switch {
		case now < 21:
			takes(t, b, 0, now)
			holds(t, b, 0, 3, 70, 4, 21)
		case now < 70:
			takes(t, b, 0, now, 4)
			holds(t, b, 0, 3, 70)
		default:
			takes(t, b, 0, now, 4, 3)
			holds(t, b, 0)
		}
	}
}

// TestTakeAtAnyNumber: what is not due at or before it stays.
func TestTakeAtAnyNumber(t *testing.T) {
	b := made(t, 1)
	sends(t, b, 0, 0, 0, 1, true)
	sends(t, b, 0, 1, latest, 50, true)
	for _, now := range []int{0, -1, -2, -50, -latest, -1 << 53, least + 1, least} {
		takes(t, b, 0, now)
	}
	holds(t, b, 0, 0, 1, 1, latest+50)
	takes(t, b, 0, 1<<53+48, 0)
	holds(t, b, 0, 1, 1<<53+49)
	takes(t, b, 0, 1<<53+49, 1)
	sends(t, b, 0, 1, latest, 50, true)
	takes(t, b, 0, most, 1)
	for _, now := range []int{least, -1, 0, 1, latest, most} {
		takes(t, b, 0, now)
	}
	holds(t, b, 0)
}

// TestTakeOfNoCore: it finds nothing, and changes nothing.
func TestTakeOfNoCore(t *testing.T) {
	for n := 1; n <= api.MaxCores; n++ {
		b := made(t, n)
		for core := range n {
			puts(t, b, core, core, 5, 23, 5)
		}
		for _, core := range noCores(n) {
			for _, now := range []int{least, -1, 0, 5, 6, most} {
				takes(t, b, core, now)
			}
			length(t, b, core, 0)
			for task := -1; task <= api.MaxTasks; task++ {
				due(t, b, core, task, -1)
			}
		}
		for core := range n {
			takes(t, b, core, 5, core, 23)
		}
	}
}

// TestTakeByTheirTicks: notes of different ticks come by these, in whichever order they were sent.
func TestTakeByTheirTicks(t *testing.T) {
	inEveryOrder(5, func(order []int) {
		for last := range 13 {
			b := made(t, 1)
			for _, task := range order {
				sends(t, b, 0, task, 1, 9-2*task, true) // task 4 is due at 2, task 0 at 10
			}
			var want []int
			for task := 4; task >= 0; task-- {
				if 10-2*task <= last {
					want = append(want, task)
				}
			}
			takes(t, b, 0, last, want...)
			length(t, b, 0, 5-len(want))
		}
	})
}

// TestTakeOneTickAsSent: whichever tasks and latencies they have, with notes of the ticks before and behind.
func TestTakeOneTickAsSent(t *testing.T) {
	ticks := []int{60, 60, 59, 60, 61, 60} // by task
	inEveryOrder(len(ticks), func(order []int) {
		b := made(t, 2)
		for i, task := range order {
			latency := 1 + (7*i+3*task)%50
			sends(t, b, 1, task, ticks[task]-latency, latency, true)
		}
		want := slices.DeleteFunc(slices.Clone(order), func(task int) bool { return ticks[task] != 60 })
		takes(t, b, 1, 60, append([]int{2}, want...)...)
		takes(t, b, 1, 61, 4)
	})
}

// TestOneTickInAnyOrderOfLatencies: falling, as when one note waits for another, rising, and mixed.
func TestOneTickInAnyOrderOfLatencies(t *testing.T) {
	for _, latencies := range [][]int{{4, 3, 2, 1}, {1, 2, 3, 4}, {50, 1, 50, 1}, {99, 0, -5, 50}, {2, 2, 2, 2}} {
		b := made(t, 1)
		tasks := []int{7, 23, 0, 11}
		for i, task := range tasks {
			counts := min(max(latencies[i], 1), 50)
			sends(t, b, 0, task, 100-counts, latencies[i], true)
		}
		takes(t, b, 0, 99)
		takes(t, b, 0, 100, tasks...)
	}
}

// TestOneTickSentAgain: a note that was taken is sent behind those that stayed.
func TestOneTickSentAgain(t *testing.T) {
	b := made(t, 1)
	puts(t, b, 0, 0, 5, 3, 9, 1, 9)
	takes(t, b, 0, 5, 0)
	puts(t, b, 0, 0, 9)
	takes(t, b, 0, 9, 3, 1, 0)
	puts(t, b, 0, 1, 9, 3, 9)
	takes(t, b, 0, 8)
	puts(t, b, 0, 0, 8)
	takes(t, b, 0, 9, 0, 1, 3)
}

// TestTurnsGoAcrossMailboxes: what is sent to other cores in between changes no order.
func TestTurnsGoAcrossMailboxes(t *testing.T) {
	b := made(t, api.MaxCores)
	tasks := []int{9, 3, 17, 0, 23, 12}
	for i, task := range tasks {
		for core := range api.MaxCores {
			puts(t, b, (core+i)%api.MaxCores, task, 30)
		}
	}
	for core := range api.MaxCores {
		takes(t, b, core, 29)
		takes(t, b, core, 30, tasks...)
	}
}

func TestFullMailboxes(t *testing.T) {
	for n := 1; n <= api.MaxCores; n++ {
		b := made(t, n)
		for core := range n {
			for i := range api.MaxTasks {
				task := (5*i + core) % api.MaxTasks
				length(t, b, core, i)
				puts(t, b, core, task, 40+i/4)
			}
			length(t, b, core, api.MaxTasks)
			for task := -2; task < api.MaxTasks+2; task++ {
				sends(t, b, core, task, 39, 1, false)
			}
		}
		for core := range n {
			for part := range api.MaxTasks / 4 {
				length(t, b, core, api.MaxTasks-4*part)
				var want []int
				for i := range 4 {
					want = append(want, (5*(4*part+i)+core)%api.MaxTasks)
				}
				takes(t, b, core, 40+part, want...)
			}
			holds(t, b, core)
		}
	}
}

// TestFullMailboxAtOnce: with many notes of one tick, in an order that is not that of their tasks.
func TestFullMailboxAtOnce(t *testing.T) {
	for step := 1; step < api.MaxTasks; step++ {
		if step%2 == 0 || step%3 == 0 {
			continue // it has a divisor of MaxTasks, and would not come to every task
		}
		for round := range 3 {
			b := made(t, 1)
			var groups [3][]int
			for i := range api.MaxTasks {
				task := i * step % api.MaxTasks
				group := i * round % 3
				puts(t, b, 0, task, 10+group)
				groups[group] = append(groups[group], task)
			}
			takes(t, b, 0, 1000, slices.Concat(groups[0], groups[1], groups[2])...)
			holds(t, b, 0)
		}
	}
}

func TestEmptyMailbox(t *testing.T) {
	b := made(t, 2)
	holds(t, b, 0)
	for _, task := range noTasks {
		due(t, b, 0, task, -1)
	}
	takes(t, b, 0, most)
	puts(t, b, 1, 4, 3)
	holds(t, b, 0)
	takes(t, b, 0, most)
	takes(t, b, 1, 3, 4)
	holds(t, b, 1)
	for _, task := range noTasks {
		due(t, b, 1, task, -1)
	}
}

// TestAskingChangesNothing: Due and Len may be called as often as one likes.
func TestAskingChangesNothing(t *testing.T) {
	b := made(t, 1)
	puts(t, b, 0, 6, 4, 2, 4, 8, 3)
	for range 3 {
		holds(t, b, 0, 6, 4, 2, 4, 8, 3)
		takes(t, b, 0, 2)
	}
	takes(t, b, 0, 4, 8, 6, 2)
}

// TestResultsAreNewMemory: with their spare capacity.
func TestResultsAreNewMemory(t *testing.T) {
	spoil := func(l []int) {
		for i := range l[:cap(l)] {
			l[:cap(l)][i] = 99
		}
	}
	b := made(t, 2)
	puts(t, b, 0, 1, 1, 2, 1, 3, 1, 4, 2, 5, 3, 6, 4)
	puts(t, b, 1, 6, 1)
	first := b.Take(0, 1)
	spoil(first)
	holds(t, b, 0, 4, 2, 5, 3, 6, 4)
	second := b.Take(0, 3)
	spoil(first)
	if !slices.Equal(second, []int{4, 5}) {
		t.Errorf("two results share memory: %v", second)
	}
	puts(t, b, 0, 7, 4)
	third := b.Take(0, 4)
	spoil(second)
	if !slices.Equal(third, []int{6, 7}) {
		t.Errorf("two results share memory: %v", third)
	}
	takes(t, b, 1, 1, 6)
}

// P10.3

// sent is a note of the rival.
type sent struct{ core, task, due int }

// rival keeps the notes as a plain list in the order in which they were sent.
type rival struct {
	cores int
	notes []sent
}

func (v *rival) find(core, task int) int {
	return slices.IndexFunc(v.notes, func(s sent) bool { return s.core == core && s.task == task })
}

func (v *rival) send(core, task, now, latency int) bool {
	switch {
	case core < 0, core >= v.cores, task < 0, task >= 24, now < 0, now >= 1<<53:
		return false
	case v.find(core, task) >= 0:
		return false
	case latency < 1:
		latency = 1
	case latency > 50:
		latency = 50
	}
	v.notes = append(v.notes, sent{core, task, now + latency})
	return true
}

func (v *rival) take(core, now int) []int {
	var taken, left []sent
	for _, s := range v.notes {
		if s.core == core && s.due <= now {
			taken = append(taken, s)
		} else {
			left = append(left, s)
		}
	}
	v.notes = left
	slices.SortStableFunc(taken, func(a, b sent) int { return a.due - b.due })
	var tasks []int
	for _, s := range taken {
		tasks = append(tasks, s.task)
	}
	return tasks
}

func (v *rival) due(core, task int) int {
	if i := v.find(core, task); i >= 0 {
		return v.notes[i].due
	}
	return -1
}

// call is one of a run: a Send, or a Take if it has no latency.
type call struct{ core, task, now, latency int }

// does makes the call on both, and tells whether they answer the same.
func (c call) does(b *Boxes, v *rival) bool {
	if c.latency == 0 {
		return slices.Equal(b.Take(c.core, c.now), v.take(c.core, c.now))
	}
	return b.Send(c.core, c.task, c.now, c.latency) == v.send(c.core, c.task, c.now, c.latency)
}

// alike tells whether both have the same notes, each of them due at the same tick.
func alike(b *Boxes, v *rival, tasks int) bool {
	for core := -1; core <= v.cores; core++ {
		count := 0
		for task := range tasks {
			if b.Due(core, task) != v.due(core, task) {
				return false
			}
			if v.due(core, task) >= 0 {
				count++
			}
		}
		if b.Len(core) != count {
			return false
		}
	}
	return true
}

// copied returns mailboxes that go on as b do, so that each can be given other calls.
func copied(b *Boxes) *Boxes {
	return &Boxes{cores: b.cores, turns: b.turns, notes: maps.Clone(b.notes)}
}

// TestAllShortRuns goes through every run of some calls with few cores, tasks and ticks.
func TestAllShortRuns(t *testing.T) {
	calls := []call{{-1, 0, 0, 1}, {2, 0, 0, 1}, {0, -1, 0, 1}, {0, 24, 0, 1}, {0, 0, -1, 1}, {0, 0, 1 << 53, 1}, {0, 0, -1, 0}, {2, 0, most, 0}, {1, 0, most, 0}, {1, 1, 2, -7}}
	for task := range 3 {
		calls = append(calls, call{0, task, 0, 1}, call{0, task, 0, 2}, call{0, task, 1, 1})
	}
	for now := range 4 {
		calls = append(calls, call{0, 0, now, 0})
	}
	var run func(b *Boxes, v *rival, told []call)
	run = func(b *Boxes, v *rival, told []call) {
		for _, c := range calls {
			d, w := copied(b), &rival{v.cores, slices.Clone(v.notes)}
			now := append(slices.Clone(told), c)
			if !c.does(d, w) || !alike(d, w, 4) {
				t.Fatalf("%d cores, calls %v: want %v", v.cores, now, w.notes)
			}
			if len(now) < 4 {
				run(d, w, now)
			}
		}
	}
	for n := 1; n <= 2; n++ {
		run(made(t, n), &rival{cores: n}, nil)
	}
}

// longRun returns many calls of a fixed order: the ticks rise slowly, so that many notes are due at one.
func longRun(n int, next func(int) int) []call {
	edges := []int{least, -1, 0, 1, api.MaxTasks - 1, api.MaxTasks, latest, latest + 1, most}
	var calls []call
	for i := range 8000 {
		now := i / 20
		c := call{next(n+2) - 1, next(api.MaxTasks+2) - 1, now - next(3), 1 + next(9)}
		if next(8) == 0 {
			c.latency = 0
		}
		if next(30) == 0 {
			c.latency = edges[next(len(edges))]
		}
		if next(60) == 0 {
			c.now = edges[next(len(edges))]
		}
		if next(60) == 0 {
			c.core, c.task = edges[next(len(edges))], edges[next(len(edges))]
		}
		calls = append(calls, c)
	}
	return calls
}

func TestLongRuns(t *testing.T) {
	next := source()
	for n := 1; n <= api.MaxCores; n++ {
		b, v := made(t, n), &rival{cores: n}
		for i, c := range longRun(n, next) {
			if !c.does(b, v) || i%16 == 0 && !alike(b, v, api.MaxTasks) {
				t.Fatalf("%d cores, call %d: %v: want %v", n, i, c, v.notes)
			}
		}
		for core := range n {
			takes(t, b, core, most, v.take(core, most)...)
			holds(t, b, core)
		}
	}
}

// TestTakenOnce: every note at the first Take at or behind its tick, and at no other one; no mailbox has more notes than there are tasks.
func TestTakenOnce(t *testing.T) {
	next := source()
	const n, last = 3, 1500
	b := made(t, n)
	waiting := map[[2]int]int{} // the tick of each note that was sent and is not taken
	count := 0
	for now := range last {
		for range next(12) {
			core, task, latency := next(n), next(api.MaxTasks), 1+next(50)
			_, there := waiting[[2]int{core, task}]
			sends(t, b, core, task, now, latency, !there)
			if !there {
				waiting[[2]int{core, task}] = now + latency
				count++
			}
		}
		for core := range n {
			if b.Len(core) > api.MaxTasks {
				t.Fatalf("Len(%d) = %d", core, b.Len(core))
			}
			if next(4) == 0 {
				continue
			}
			for _, task := range b.Take(core, now) {
				tick, there := waiting[[2]int{core, task}]
				if !there || tick > now {
					t.Fatalf("at tick %d core %d takes task %d, due at %d", now, core, task, tick)
				}
				delete(waiting, [2]int{core, task})
				count--
			}
			for task := range api.MaxTasks {
				if tick, there := waiting[[2]int{core, task}]; there && tick <= now {
					t.Fatalf("at tick %d core %d has left task %d, due at %d", now, core, task, tick)
				}
			}
		}
	}
	for core := range n {
		count -= len(b.Take(core, last+api.MaxLatency))
		holds(t, b, core)
	}
	if count != 0 {
		t.Errorf("%d more notes were sent than taken", count)
	}
}

// TestSameCallsSameAnswers: nothing hangs on the order in which a map is gone through.
func TestSameCallsSameAnswers(t *testing.T) {
	calls := longRun(2, source())[:2000]
	answers := func() [][]int {
		b := made(t, 2)
		var l [][]int
		for _, c := range calls {
			if c.latency == 0 {
				l = append(l, b.Take(c.core, c.now))
			} else {
				b.Send(c.core, c.task, c.now, c.latency)
			}
		}
		return append(l, b.Take(0, most), b.Take(1, most))
	}
	want := answers()
	for range 20 {
		if got := answers(); !slices.EqualFunc(got, want, slices.Equal) {
			t.Fatal("the same calls have other answers")
		}
	}
}

// Ways

// sources returns the files of the package that are no tests.
func sources(t *testing.T) map[string]*ast.File {
	t.Helper()
	names, err := filepath.Glob("*.go")
	if err != nil || len(names) == 0 {
		t.Fatal(names, err)
	}
	files := map[string]*ast.File{}
	for _, name := range names {
		if strings.HasSuffix(name, "_test.go") {
			continue
		}
		file, err := parser.ParseFile(token.NewFileSet(), name, nil, 0)
		if err != nil {
			t.Fatal(err)
		}
		files[name] = file
	}
	return files
}

// TestImports: the chapter lets the layer import package api only.
func TestImports(t *testing.T) {
	for name, file := range sources(t) {
		for _, i := range file.Imports {
			if i.Path.Value != `"tourbillon/api"` {
				t.Errorf("%s imports %s", name, i.Path.Value)
			}
		}
	}
}

// TestNotesAreFoundByAStruct: that of core and task is the key of the map in which they are, and from which they are deleted.
func TestNotesAreFoundByAStruct(t *testing.T) {
	keys, deletes, structs := map[string]int{}, 0, map[string]int{}
	for _, file := range sources(t) {
		ast.Inspect(file, func(n ast.Node) bool {
			switch x := n.(type) {
			case *ast.MapType:
				if key, ok := x.Key.(*ast.Ident); ok {
					keys[key.Name]++
				}
			case *ast.CallExpr:
				if name, ok := x.Fun.(*ast.Ident); ok && name.Name == "delete" {
					deletes++
				}
			case *ast.TypeSpec:
				if _, ok := x.Type.(*ast.StructType); ok {
					structs[x.Name.Name]++
				}
			}
			return true
		})
	}
	if len(keys) == 0 || deletes == 0 {
		t.Errorf("maps by key %v, %d deletes", keys, deletes)
	}
	for key := range keys {
		if structs[key] == 0 {
			t.Errorf("a map has the key %s, which is no struct", key)
		}
	}
}
