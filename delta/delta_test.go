package delta

import (
	"go/ast"
	"go/parser"
	"go/token"
	"path/filepath"
	"slices"
	"strings"
	"testing"

	"tourbillon/api"
)

const (
	most    = 1<<63 - 1
	least   = -1 << 63
	longest = 1<<53 - 1 // the most ticks of a timer
)

// made returns a list of that room.
func made(t *testing.T, room int) *List {
	t.Helper()
	l, err := New(room)
	if err != api.OK || l == nil {
		t.Fatalf("New(%d) = %v, %d", room, l, err)
	}
	return l
}

// add adds timers that fit: ids and ticks by turns.
func add(t *testing.T, l *List, pairs ...int) {
	t.Helper()
	for i := 0; i < len(pairs); i += 2 {
		adds(t, l, pairs[i], pairs[i+1], api.OK)
	}
}

// adds holds the error of Add against the one that is wanted.
func adds(t *testing.T, l *List, id, after int, want api.Errno) {
	t.Helper()
	if err := l.Add(id, after); err != want {
		t.Errorf("Add(%d, %d) = %d, want %d", id, after, err, want)
	}
}

// ticks holds what one Tick returns against the ids that are wanted.
func ticks(t *testing.T, l *List, want ...int) {
	t.Helper()
	if got := l.Tick(); !slices.Equal(got, want) {
		t.Errorf("Tick = %v, want %v", got, want)
	}
	absent(t, l, want...)
}

// skips holds what Skip(n) returns against the ids that are wanted.
func skips(t *testing.T, l *List, n int, want ...int) {
	t.Helper()
	if got, err := l.Skip(n); !slices.Equal(got, want) || err != api.OK {
		t.Errorf("Skip(%d) = %v, %d, want %v", n, got, err, want)
	}
	absent(t, l, want...)
}

// cancel cancels ids, all of which have a timer.
func cancel(t *testing.T, l *List, ids ...int) {
	t.Helper()
	for _, id := range ids {
		if !l.Cancel(id) {
			t.Errorf("Cancel(%d) = false", id)
		}
	}
	absent(t, l, ids...)
}

// absent holds what is told of ids that have no timer against what the chapter says.
func absent(t *testing.T, l *List, ids ...int) {
	t.Helper()
	count := l.Len()
	for _, id := range ids {
		left(t, l, id, 0)
		if l.Cancel(id) {
			t.Errorf("Cancel(%d) of none = true", id)
		}
	}
	length(t, l, count)
}

// left holds what Left returns for an id against what is wanted.
func left(t *testing.T, l *List, id, want int) {
	t.Helper()
	if got := l.Left(id); got != want {
		t.Errorf("Left(%d) = %d, want %d", id, got, want)
	}
}

// length holds Len against what is wanted.
func length(t *testing.T, l *List, want int) {
	t.Helper()
	if got := l.Len(); got != want {
		t.Errorf("Len = %d, want %d", got, want)
	}
}

// holds holds Len and Left against all the timers that are wanted: ids and ticks by turns.
func holds(t *testing.T, l *List, pairs ...int) {
	t.Helper()
	length(t, l, len(pairs)/2)
	for i := 0; i < len(pairs); i += 2 {
		left(t, l, pairs[i], pairs[i+1])
	}
}

// upTo returns the numbers from 0 to n - 1.
func upTo(n int) []int {
	l := make([]int, n)
	for i := range l {
		l[i] = i
	}
	return l
}

// P5.1

func TestNewRoom(t *testing.T) {
	for _, room := range []int{0, 1, 2, api.MaxItems - 1, api.MaxItems} {
		l := made(t, room)
		holds(t, l)
		absent(t, l, 0, 1, -1)
		ticks(t, l)
		skips(t, l, 9)
	}
	for _, room := range []int{-1, -2, api.MaxItems + 1, most, least, 1 << 32, -1 << 32, 1<<32 + 5} {
		if l, err := New(room); l != nil || err != api.ErrArg {
			t.Errorf("New(%d) = %v, %d", room, l, err)
		}
	}
}

func TestAddUntilFull(t *testing.T) {
	for room := range api.MaxItems + 1 {
		l := made(t, room)
		for id := range room {
			add(t, l, id, 3)
			left(t, l, id, 3)
			length(t, l, id+1)
		}
		adds(t, l, room, 3, api.ErrFull)
		absent(t, l, room)
		length(t, l, room)
		skips(t, l, 2)
		skips(t, l, 1, upTo(room)...)
		holds(t, l)
	}
}

func TestAddFindsRoomAgain(t *testing.T) {
	l := made(t, 3)
	add(t, l, 1, 1, 2, 2, 3, 5)
	adds(t, l, 4, 1, api.ErrFull)
	ticks(t, l, 1)
	add(t, l, 4, 9)
	adds(t, l, 5, 1, api.ErrFull)
	cancel(t, l, 3)
	add(t, l, 5, 7)
	adds(t, l, 6, 1, api.ErrFull)
	skips(t, l, 8, 2, 5)
	add(t, l, 6, 1, 7, 1)
	adds(t, l, 8, 1, api.ErrFull)
	ticks(t, l, 4, 6, 7)
	holds(t, l)
}

func TestAddIntoNoRoom(t *testing.T) {
	l := made(t, 0)
	for _, id := range []int{0, 1, -1, most, least, 0} {
		adds(t, l, id, 1, api.ErrFull)
		adds(t, l, id, longest, api.ErrFull)
		adds(t, l, id, 0, api.ErrArg)
		absent(t, l, id)
	}
	ticks(t, l)
	holds(t, l)
}

func TestAddTwice(t *testing.T) {
	l := made(t, 3)
	add(t, l, 4, 6)
	adds(t, l, 4, 6, api.ErrExists)
	add(t, l, 5, 2, 6, 9)
	for _, id := range []int{4, 5, 6} { // the list is full, but that is named behind
		for _, after := range []int{1, 2, 5, 6, 7, 9, 10, longest} {
			adds(t, l, id, after, api.ErrExists)
		}
	}
	adds(t, l, 7, 1, api.ErrFull)
	holds(t, l, 4, 6, 5, 2, 6, 9)
	skips(t, l, 20, 5, 4, 6)
}

// TestAfterOutOfRange: also for an id that has a timer and for a full list, as these are named behind.
func TestAfterOutOfRange(t *testing.T) {
	wrong := []int{0, -1, -2, 1 << 53, 1<<53 + 1, 1 << 54, 1 << 62, most, least, least + 1, -longest, 1<<63 - 1<<53}
	l := made(t, 2)
	for round := range 3 {
		for _, after := range wrong {
			adds(t, l, 7, after, api.ErrArg)
			adds(t, l, 9, after, api.ErrArg)
		}
		length(t, l, round)
		if round < 2 {
			add(t, l, 7+round, longest-round)
		}
	}
	holds(t, l, 7, longest, 8, longest-1)
}

func TestAfterAtTheEdges(t *testing.T) {
	l := made(t, 8)
	add(t, l, 1, longest, 2, 1, 3, longest-1, 4, 2, 5, longest, 6, 1<<52, 7, 1<<32, 8, 1<<31)
	holds(t, l, 1, longest, 2, 1, 3, longest-1, 4, 2, 5, longest, 6, 1<<52, 7, 1<<32, 8, 1<<31)
	ticks(t, l, 2)
	ticks(t, l, 4)
	skips(t, l, 1<<31-3)
	holds(t, l, 1, longest-1<<31+1, 3, longest-1<<31, 5, longest-1<<31+1, 6, 1<<52-1<<31+1, 7, 1<<32-1<<31+1, 8, 1)
	ticks(t, l, 8)
	skips(t, l, longest-1<<31-2, 7, 6)
	holds(t, l, 1, 2, 3, 1, 5, 2)
	ticks(t, l, 3)
	ticks(t, l, 1, 5)
	ticks(t, l)
}

// TestLongestAgainAndAgain: the time may be any sum of ticks; only what is left of a timer is bounded.
func TestLongestAgainAndAgain(t *testing.T) {
	l := made(t, 2)
	for range 5000 { // far more than 2^63 ticks
		add(t, l, 1, longest)
		skips(t, l, longest-1)
		add(t, l, 2, longest)
		holds(t, l, 1, 1, 2, longest)
		ticks(t, l, 1)
		holds(t, l, 2, longest-1)
		skips(t, l, longest-1, 2)
	}
	holds(t, l)
}

func TestAnyId(t *testing.T) {
	ids := []int{0, -1, most, least, 1, most - 1, least + 1, api.MaxItems, 1 << 32, -1 << 32}
	l := made(t, len(ids))
	for i, id := range ids {
		absent(t, l, id)
		add(t, l, id, i/2+1)
		adds(t, l, id, 1, api.ErrExists)
		left(t, l, id, i/2+1)
		length(t, l, i+1)
	}
	absent(t, l, 2, -2, 1<<31, 1<<33)
	cancel(t, l, least, 0)
	ticks(t, l, -1)
	ticks(t, l, most)
	ticks(t, l, 1, most-1)
	skips(t, l, 5, least+1, api.MaxItems, 1<<32, -1<<32)
}

func TestListsAreApart(t *testing.T) {
	a, b := made(t, 2), made(t, 2)
	add(t, a, 1, 2)
	add(t, b, 1, 5, 2, 2)
	ticks(t, b)
	holds(t, a, 1, 2)
	holds(t, b, 1, 4, 2, 1)
	cancel(t, b, 1)
	holds(t, a, 1, 2)
	skips(t, a, 2, 1)
	holds(t, b, 2, 1)
	ticks(t, b, 2)
}

// P5.2

func TestExamplesOfTheChapter(t *testing.T) {
	l := made(t, 3)
	add(t, l, 7, 2, 8, 1, 9, 2)
	ticks(t, l, 8)
	ticks(t, l, 7, 9)

	l = made(t, 3)
	add(t, l, 7, 3)
	skips(t, l, 5, 7)
	left(t, l, 7, 0)
	adds(t, l, 7, 0, api.ErrArg)
}

// inEveryOrder calls f with every order of the numbers from 0 to n - 1.
func inEveryOrder(n int, f func(order []int)) {
	var more func(order, left []int)
	more = func(order, left []int) {
		if len(left) == 0 {
			f(slices.Clone(order))
		}
		for i, x := range left {
			more(append(slices.Clone(order), x), slices.Delete(slices.Clone(left), i, i+1))
		}
	}
	more(nil, upTo(n))
}

// TestAddInEveryOrder: timers of different ticks expire by their ticks, in whichever order they were added.
func TestAddInEveryOrder(t *testing.T) {
	inEveryOrder(5, func(order []int) {
		l := made(t, 5)
		for _, id := range order {
			add(t, l, id, 2*id+1)
		}
		holds(t, l, 0, 1, 1, 3, 2, 5, 3, 7, 4, 9)
		for id := range 5 {
			ticks(t, l, id)
			ticks(t, l)
		}
	})
}

// TestOneTickInTheOrderAdded: with timers of the ticks before and behind, in every order.
func TestOneTickInTheOrderAdded(t *testing.T) {
	after := []int{4, 4, 4, 3, 5, 4} // by id
	inEveryOrder(len(after), func(order []int) {
		l := made(t, len(after))
		for _, id := range order {
			add(t, l, id, after[id])
		}
		want := slices.DeleteFunc(slices.Clone(order), func(id int) bool { return after[id] != 4 })
		ticks(t, l)
		ticks(t, l)
		ticks(t, l, 3)
		ticks(t, l, want...)
		ticks(t, l, 4)
	})
}

// TestOneTickAddedAtDifferentTimes: what counts is the tick of the expiry, not the number that was given.
func TestOneTickAddedAtDifferentTimes(t *testing.T) {
	l := made(t, 6)
	add(t, l, 10, 4, 20, 5)
	ticks(t, l)
	add(t, l, 30, 3, 5, 4)
	ticks(t, l)
	ticks(t, l)
	add(t, l, 1, 1, 2, 2)
	holds(t, l, 10, 1, 20, 2, 30, 1, 5, 2, 1, 1, 2, 2)
	ticks(t, l, 10, 30, 1)
	ticks(t, l, 20, 5, 2)
	holds(t, l)
}

func TestTimersOfOneTick(t *testing.T) {
	l := made(t, 4)
	add(t, l, 3, 2, 9, 1, 2, 1, 5, 1)
	holds(t, l, 3, 2, 9, 1, 2, 1, 5, 1)
	ticks(t, l, 9, 2, 5)
	add(t, l, 9, 1)
	ticks(t, l, 3, 9)
	for id := range 9 {
		add(t, l, id, 1)
		ticks(t, l, id)
		ticks(t, l)
	}
}

func TestTickOnEmpty(t *testing.T) {
	l := made(t, 2)
	for range 20 {
		ticks(t, l)
	}
	skips(t, l, most)
	add(t, l, 0, 2) // the ticks before a timer came do not count for it
	ticks(t, l)
	ticks(t, l, 0)
	ticks(t, l)
}

func TestSkipNothing(t *testing.T) {
	l := made(t, 3)
	skips(t, l, 0)
	add(t, l, 1, 1, 2, 1, 3, longest)
	for range 5 {
		skips(t, l, 0)
		holds(t, l, 1, 1, 2, 1, 3, longest)
	}
	ticks(t, l, 1, 2)
	skips(t, l, 0)
	holds(t, l, 3, longest-1)
	skips(t, l, longest-1, 3)
	skips(t, l, 0)
}

func TestSkipSomeExpiries(t *testing.T) {
	l := made(t, 7)
	add(t, l, 6, 9, 1, 2, 2, 4, 3, 2, 4, 7, 5, 4, 0, 20)
	skips(t, l, 1)
	skips(t, l, 5, 1, 3, 2, 5)
	holds(t, l, 6, 3, 4, 1, 0, 14)
	skips(t, l, 3, 4, 6)
	holds(t, l, 0, 11)
	skips(t, l, 10)
	holds(t, l, 0, 1)
	skips(t, l, 1, 0)
}

func TestSkipBeyondTheLast(t *testing.T) {
	for _, n := range []int{8, 9, 10, 1 << 32, longest, longest + 1, 1 << 62, most - 1, most} {
		l := made(t, 3)
		add(t, l, 1, 8, 2, 3, 3, 8)
		skips(t, l, n, 2, 1, 3)
		holds(t, l)
		skips(t, l, n)
		ticks(t, l)
		add(t, l, 1, 1, 2, longest)
		ticks(t, l, 1)
		skips(t, l, max(n, longest), 2)
		holds(t, l)
	}
}

func TestSkipNegative(t *testing.T) {
	l := made(t, 3)
	for range 2 {
		for _, n := range []int{-1, -2, -longest, least + 1, least} {
			if ids, err := l.Skip(n); len(ids) != 0 || err != api.ErrArg {
				t.Errorf("Skip(%d) = %v, %d", n, ids, err)
			}
		}
		add(t, l, 4+l.Len(), 1)
	}
	holds(t, l, 4, 1, 5, 1)
	ticks(t, l, 4, 5)
}

// TestLeftCountsDown: to 1 at the last tick before the expiry, and 0 from it on.
func TestLeftCountsDown(t *testing.T) {
	l := made(t, 3)
	add(t, l, 1, 4, 2, 2, 3, 4)
	for now := range 6 {
		for id, after := range []int{0, 4, 2, 4} {
			left(t, l, id, max(after-now, 0))
		}
		l.Tick()
	}
}

// TestCancelEveryTimer: of lists whose timers expire at one tick and at others, the one at every place.
func TestCancelEveryTimer(t *testing.T) {
	for _, after := range [][]int{{1}, {6}, {1, 1}, {2, 5}, {5, 2}, {3, 3, 3}, {1, 4, 9}, {9, 4, 1}, {4, 4, 9}, {4, 9, 9}, {1, 4, 4, 4, 9}, {longest, 1, longest}} {
		for gone := range after {
			l, v := made(t, len(after)), &rival{room: len(after)}
			for id, n := range after {
				add(t, l, id, n)
				v.add(id, n)
			}
			cancel(t, l, gone)
			v.cancel(gone)
			if !alike(l, v) {
				t.Errorf("%v: Cancel(%d) leaves another list", after, gone)
			}
			for range 10 {
				ticks(t, l, v.skip(1)...)
			}
			skips(t, l, longest, v.skip(longest)...)
			holds(t, l)
		}
	}
}

func TestCancelFirstMiddleLast(t *testing.T) {
	l := made(t, 5)
	add(t, l, 10, 2, 20, 4, 30, 4, 40, 4, 50, 7)
	cancel(t, l, 30)
	holds(t, l, 10, 2, 20, 4, 40, 4, 50, 7)
	cancel(t, l, 10)
	holds(t, l, 20, 4, 40, 4, 50, 7)
	ticks(t, l)
	cancel(t, l, 50)
	holds(t, l, 20, 3, 40, 3)
	cancel(t, l, 20)
	holds(t, l, 40, 3)
	absent(t, l, 10, 20, 30, 50, 60)
	ticks(t, l)
	cancel(t, l, 40)
	skips(t, l, 9)
	holds(t, l)
}

// TestCancelAtTheLastMoment: a timer of the next tick does not expire.
func TestCancelAtTheLastMoment(t *testing.T) {
	l := made(t, 3)
	add(t, l, 1, 3, 2, 3, 3, 3)
	skips(t, l, 2)
	cancel(t, l, 2)
	ticks(t, l, 1, 3)
	add(t, l, 2, 1)
	cancel(t, l, 2)
	ticks(t, l)
}

func TestIdsComeAgain(t *testing.T) {
	l := made(t, 3)
	add(t, l, 1, 2, 2, 2)
	cancel(t, l, 1)
	add(t, l, 1, 2) // it was added behind 2 now
	skips(t, l, 2, 2, 1)
	add(t, l, 1, 1, 2, 3)
	ticks(t, l, 1)
	add(t, l, 1, 5)
	holds(t, l, 1, 5, 2, 2)
	cancel(t, l, 1)
	add(t, l, 1, 1, 3, 1)
	ticks(t, l, 1, 3)
	add(t, l, 1, 1)
	skips(t, l, 9, 2, 1)
	add(t, l, 1, 4)
	skips(t, l, 3)
	ticks(t, l, 1)
	holds(t, l)
}

// TestResultsAreNewMemory: with their spare capacity.
func TestResultsAreNewMemory(t *testing.T) {
	spoil := func(ids []int) {
		for i := range ids[:cap(ids)] {
			ids[:cap(ids)][i] = 99
		}
	}
	l := made(t, 6)
	add(t, l, 1, 1, 2, 1, 3, 1, 4, 2, 5, 3, 6, 4)
	a := l.Tick()
	spoil(a)
	holds(t, l, 4, 1, 5, 2, 6, 3)
	b, _ := l.Skip(2)
	spoil(a)
	if !slices.Equal(b, []int{4, 5}) {
		t.Errorf("two results share memory: %v", b)
	}
	add(t, l, 7, 1)
	c := l.Tick()
	spoil(b)
	if !slices.Equal(c, []int{6, 7}) {
		t.Errorf("two results share memory: %v", c)
	}
}

// P5.3

// rival keeps timers as a plain list in the order in which they were added; each has what is left of it, and every tick goes through all.
type rival struct {
	room   int
	timers [][2]int // id and ticks
}

func (v *rival) find(id int) int {
	return slices.IndexFunc(v.timers, func(p [2]int) bool { return p[0] == id })
}

func (v *rival) add(id, after int) api.Errno {
	switch {
	case after <= 0 || after >= 1<<53:
		return api.ErrArg
	case v.find(id) >= 0:
		return api.ErrExists
	case len(v.timers) == v.room:
		return api.ErrFull
	}
	v.timers = append(v.timers, [2]int{id, after})
	return api.OK
}

// next returns how many ticks there are until the next expiry.
func (v *rival) next() int {
	next := most
	for _, p := range v.timers {
		next = min(next, p[1])
	}
	return next
}

// pass advances the time by n ticks; no timer expires before the last of them.
func (v *rival) pass(n int) []int {
	var ids []int
	var left [][2]int
	for _, p := range v.timers {
		if p[1] -= n; p[1] == 0 {
			ids = append(ids, p[0])
		} else {
			left = append(left, p)
		}
	}
	v.timers = left
	return ids
}

func (v *rival) skip(n int) []int {
	var ids []int
	for n > 0 && len(v.timers) > 0 {
		by := min(n, v.next())
		ids = append(ids, v.pass(by)...)
		n -= by
	}
	return ids
}

func (v *rival) cancel(id int) bool {
	i := v.find(id)
	if i >= 0 {
		v.timers = slices.Delete(v.timers, i, i+1)
	}
	return i >= 0
}

// call is one of a run: its kind, and what it is given.
type call struct{ kind, id, n int }

const (
	callAdd = iota
	callTick
	callSkip
	callCancel
)

// step does one call on both, and tells whether they answer alike.
func step(l *List, v *rival, c call) bool {
	switch c.kind {
	case callAdd:
		return l.Add(c.id, c.n) == v.add(c.id, c.n)
	case callTick:
		return slices.Equal(l.Tick(), v.skip(1))
	case callSkip:
		ids, err := l.Skip(c.n)
		if c.n < 0 {
			return len(ids) == 0 && err == api.ErrArg
		}
		return slices.Equal(ids, v.skip(c.n)) && err == api.OK
	}
	return l.Cancel(c.id) == v.cancel(c.id)
}

// alike tells whether both have the same timers, with the same ticks left, and whether the gaps of the chain are those of their order.
func alike(l *List, v *rival) bool {
	order := slices.Clone(v.timers)
	slices.SortStableFunc(order, func(a, b [2]int) int { return a[1] - b[1] })
	if l.Len() != len(order) {
		return false
	}
	link, now := l.head.next, 0
	for _, p := range order {
		if l.Left(p[0]) != p[1] || link == nil || link.id != p[0] || link.gap != p[1]-now {
			return false
		}
		link, now = link.next, p[1]
	}
	return link == nil
}

// copied returns a list that goes on as l does, so that each can be given other calls.
func copied(l *List) *List {
	c := &List{room: l.room, count: l.count, head: &timer{}}
	last := c.head
	for link := l.head.next; link != nil; link = link.next {
		last.next = &timer{link.id, link.gap, nil}
		last = last.next
	}
	return c
}

// TestAllShortRuns goes through every run of some calls with few ids and ticks.
func TestAllShortRuns(t *testing.T) {
	calls := []call{{callTick, 0, 0}, {callSkip, 0, -1}, {callSkip, 0, 0}, {callSkip, 0, 2}, {callSkip, 0, most}}
	for id := range 3 {
		calls = append(calls, call{callCancel, id, 0}, call{callAdd, id, 1}, call{callAdd, id, 2}, call{callAdd, id, 3})
	}
	calls = append(calls, call{callAdd, 0, 0}, call{callAdd, 1, longest}, call{callAdd, 2, longest + 1})
	var run func(l *List, v *rival, told []call)
	run = func(l *List, v *rival, told []call) {
		for _, c := range calls {
			m, w := copied(l), &rival{v.room, slices.Clone(v.timers)}
			now := append(slices.Clone(told), c)
			if !step(m, w, c) || !alike(m, w) {
				t.Fatalf("room %d, calls %v: want %v", v.room, now, w.timers)
			}
			if len(now) < 4 {
				run(m, w, now)
			}
		}
	}
	for room := range 4 {
		run(made(t, room), &rival{room: room}, nil)
	}
}

// source returns a function that answers numbers from 0 to n - 1 in a fixed order.
func source() func(n int) int {
	state := uint64(1)
	return func(n int) int {
		state = state*6364136223846793005 + 1442695040888963407
		return int(state>>33) % n
	}
}

// TestLongRuns goes through many calls with ids and ticks in a fixed order.
func TestLongRuns(t *testing.T) {
	next := source()
	edges := []int{least, -1, 0, 1, 2, longest - 1, longest, longest + 1, most}
	for _, room := range []int{1, 2, 3, 7, 40, 255, api.MaxItems} {
		l, v := made(t, room), &rival{room: room}
		for i := range 6000 {
			c := call{next(4), next(room+room/8+2) - 1, next(room/2 + 9)}
			if c.kind != callAdd && next(3) > 0 {
				c.kind = callAdd // else the list would hardly fill
			}
			if next(12) == 0 {
				c.n = edges[next(len(edges))]
			}
			if c.kind == callSkip && c.n > room {
				c.n = []int{most, 3}[min(next(9), 1)]
			}
			if c.id == 0 {
				c.id = []int{least, most}[next(2)]
			}
			if !step(l, v, c) || !alike(l, v) {
				t.Fatalf("room %d, call %d: %v: want %v", room, i, c, v.timers)
			}
		}
		skips(t, l, most, v.skip(most)...)
		holds(t, l)
	}
}

// filled returns a list with timers of a fixed order of ticks, some of them cancelled.
func filled(t *testing.T, room int, next func(int) int) *List {
	t.Helper()
	l := made(t, room)
	for id := range room {
		add(t, l, id, 1+next(room))
		if next(3) == 0 {
			absent(t, l, l.Tick()...)
		}
	}
	for range room / 4 {
		l.Cancel(next(room))
	}
	return l
}

// TestSkipIsManyTicks: also what is left behind is the same.
func TestSkipIsManyTicks(t *testing.T) {
	next := source()
	for _, room := range []int{0, 1, 2, 5, 30, api.MaxItems} {
		for n := range 40 {
			l := filled(t, room, next)
			m := copied(l)
			for now := 0; now <= room+40; now += n + 1 {
				var want []int
				for range n {
					want = append(want, m.Tick()...)
				}
				skips(t, l, n, want...)
				for id := range room {
					left(t, l, id, m.Left(id))
				}
				ticks(t, l, m.Tick()...)
			}
		}
	}
}

// TestExpiresOnce: every timer at its tick and at no other one, but for those that are cancelled.
func TestExpiresOnce(t *testing.T) {
	next := source()
	const room, last = api.MaxItems, 60
	l := made(t, room)
	due := make([]int, room)
	for now := range last {
		for id := range room {
			if due[id] <= now && next(10) == 0 {
				due[id] = now + 1 + next(8)
				add(t, l, id, due[id]-now)
			} else if due[id] > now && next(20) == 0 {
				cancel(t, l, id)
				due[id] = 0
			}
		}
		got := l.Tick()
		slices.Sort(got)
		var want []int
		for id := range room {
			if due[id] == now+1 {
				want = append(want, id)
			}
		}
		if !slices.Equal(got, want) {
			t.Fatalf("at tick %d: %v, want %v", now+1, got, want)
		}
	}
}

// Ways

// sources returns the files of the package that are no tests.
func sources(t *testing.T) map[string]*ast.File {
	t.Helper()
	names, err := filepath.Glob("*.go")
	if err != nil || len(names) == 0 {
		t.Fatal(names, err)
	}
	files := map[string]*ast.File{}
	for _, name := range names {
		if strings.HasSuffix(name, "_test.go") {
			continue
		}
		file, err := parser.ParseFile(token.NewFileSet(), name, nil, 0)
		if err != nil {
			t.Fatal(err)
		}
		files[name] = file
	}
	return files
}

// TestImports: the chapter lets the layer import package api only.
func TestImports(t *testing.T) {
	for name, file := range sources(t) {
		for _, i := range file.Imports {
			if i.Path.Value != `"tourbillon/api"` {
				t.Errorf("%s imports %s", name, i.Path.Value)
			}
		}
	}
}

// TestVisitedWithALabel: the label is one that a break or continue names.
func TestVisitedWithALabel(t *testing.T) {
	used := 0
	for _, file := range sources(t) {
		ast.Inspect(file, func(n ast.Node) bool {
			if b, ok := n.(*ast.BranchStmt); ok && b.Label != nil {
				used++
			}
			return true
		})
	}
	if used == 0 {
		t.Error("no loop is left or gone on with by a label")
	}
}
