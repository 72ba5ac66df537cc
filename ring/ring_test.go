package ring

import (
	"go/parser"
	"go/token"
	"path/filepath"
	"slices"
	"strings"
	"testing"

	"tourbillon/api"
)

const (
	most  = 1<<63 - 1
	least = -1 << 63
)

// made returns a queue of that room.
func made(t *testing.T, room int) *Ring {
	t.Helper()
	r, err := New(room)
	if err != api.OK || r == nil {
		t.Fatalf("New(%d) = %v, %d", room, r, err)
	}
	return r
}

// turned returns an empty queue of that room whose first position has gone on by that many; as many tickets have been given.
func turned(t *testing.T, room, by int) *Ring {
	t.Helper()
	r := made(t, room)
	for range by {
		put(t, r, 0)
		take(t, r, 0)
	}
	if want := by % len(r.items); r.first != want {
		t.Fatalf("room %d: the first position is %d, want %d", room, r.first, want)
	}
	return r
}

// put appends ids, all of which fit.
func put(t *testing.T, r *Ring, ids ...int) {
	t.Helper()
	for _, id := range ids {
		if ticket, err := r.Put(id); err != api.OK || ticket <= 0 {
			t.Fatalf("Put(%d) = %d, %d", id, ticket, err)
		}
	}
}

// take takes ids, which are the first ones.
func take(t *testing.T, r *Ring, ids ...int) {
	t.Helper()
	for _, want := range ids {
		if id, ok := r.Take(); id != want || !ok {
			t.Errorf("Take = %d, %v, want %d", id, ok, want)
		}
	}
}

// drop drops ids, all of which are there.
func drop(t *testing.T, r *Ring, ids ...int) {
	t.Helper()
	for _, id := range ids {
		if !r.Drop(id) {
			t.Errorf("Drop(%d) = false", id)
		}
	}
}

// ticket holds the ticket that Put gives id against the one that is wanted.
func ticket(t *testing.T, r *Ring, id, want int) {
	t.Helper()
	if got, err := r.Put(id); got != want || err != api.OK {
		t.Errorf("Put(%d) = %d, %d, want %d", id, got, err, want)
	}
}

// refused holds the error of a Put that gives no ticket against the one that is wanted.
func refused(t *testing.T, r *Ring, id int, want api.Errno) {
	t.Helper()
	if got, err := r.Put(id); got != 0 || err != want {
		t.Errorf("Put(%d) = %d, %d, want 0, %d", id, got, err, want)
	}
}

// absent holds what is told of ids that are not in the queue against what the chapter says.
func absent(t *testing.T, r *Ring, ids ...int) {
	t.Helper()
	for _, id := range ids {
		if place, ticket := r.Place(id), r.Ticket(id); place != -1 || ticket != 0 {
			t.Errorf("of %d, which is absent: Place %d, Ticket %d", id, place, ticket)
		}
		if r.Drop(id) {
			t.Errorf("Drop(%d) of none = true", id)
		}
	}
}

// queue holds All, Len, Place, Ticket and Head against the ids that are wanted.
func queue(t *testing.T, r *Ring, want ...int) {
	t.Helper()
	if got := r.All(); !slices.Equal(got, want) {
		t.Errorf("All = %v, want %v", got, want)
	}
	if r.Len() != len(want) {
		t.Errorf("Len = %d, want %d", r.Len(), len(want))
	}
	last := 0
	for i, id := range want {
		if r.Place(id) != i {
			t.Errorf("Place(%d) = %d, want %d", id, r.Place(id), i)
		}
		if r.Ticket(id) <= last {
			t.Errorf("Ticket(%d) = %d behind %d", id, r.Ticket(id), last)
		}
		last = r.Ticket(id)
	}
	first, there := 0, len(want) > 0
	if there {
		first = want[0]
	}
	if id, ok := r.Head(); id != first || ok != there {
		t.Errorf("Head = %d, %v, want %d, %v", id, ok, first, there)
	}
}

// drained holds what Take answers until the queue is empty against the ids that are wanted.
func drained(t *testing.T, r *Ring, want ...int) {
	t.Helper()
	take(t, r, want...)
	if id, ok := r.Take(); id != 0 || ok {
		t.Errorf("Take of none = %d, %v", id, ok)
	}
	queue(t, r)
}

// upTo returns the numbers from 0 to n - 1.
func upTo(n int) []int {
	l := make([]int, n)
	for i := range l {
		l[i] = i
	}
	return l
}

// P4.1

func TestNewRoom(t *testing.T) {
	for _, room := range []int{0, 1, 2, api.MaxItems - 1, api.MaxItems} {
		r := made(t, room)
		queue(t, r)
		absent(t, r, 0, 1, -1)
	}
	for _, room := range []int{-1, -2, api.MaxItems + 1, most, least, 1 << 32, -1 << 32, 1<<32 + 5} {
		if r, err := New(room); r != nil || err != api.ErrArg {
			t.Errorf("New(%d) = %v, %d", room, r, err)
		}
	}
}

// TestPutUntilFull: a queue has just the room that was asked for, whatever the power of two is that its slice has.
func TestPutUntilFull(t *testing.T) {
	for room := range api.MaxItems + 1 {
		r := made(t, room)
		for i := range room {
			ticket(t, r, i, i+1)
		}
		refused(t, r, room, api.ErrFull)
		absent(t, r, room)
		queue(t, r, upTo(room)...)
		drained(t, r, upTo(room)...)
	}
}

func TestPutFindsRoomAgain(t *testing.T) {
	r := made(t, 3)
	put(t, r, 1, 2, 3)
	refused(t, r, 4, api.ErrFull)
	take(t, r, 1)
	put(t, r, 4)
	refused(t, r, 5, api.ErrFull)
	drop(t, r, 3)
	put(t, r, 5)
	refused(t, r, 6, api.ErrFull)
	queue(t, r, 2, 4, 5)
}

func TestPutTwice(t *testing.T) {
	r := made(t, 3)
	put(t, r, 4)
	refused(t, r, 4, api.ErrExists)
	put(t, r, 5)
	refused(t, r, 4, api.ErrExists)
	refused(t, r, 5, api.ErrExists)
	put(t, r, 6)
	for _, id := range []int{4, 5, 6} { // the queue is full, but that is named behind
		refused(t, r, id, api.ErrExists)
	}
	refused(t, r, 7, api.ErrFull)
	queue(t, r, 4, 5, 6)
}

// TestRefusedPutTakesNoTicket: with an error, nothing has changed that a later call could observe.
func TestRefusedPutTakesNoTicket(t *testing.T) {
	r := made(t, 2)
	ticket(t, r, 8, 1)
	for range 5 {
		refused(t, r, 8, api.ErrExists)
	}
	ticket(t, r, 9, 2)
	for range 5 {
		refused(t, r, 10, api.ErrFull)
		refused(t, r, 9, api.ErrExists)
	}
	if r.Ticket(8) != 1 || r.Ticket(9) != 2 {
		t.Errorf("a refused Put leaves tickets %d, %d", r.Ticket(8), r.Ticket(9))
	}
	take(t, r, 8)
	ticket(t, r, 10, 3)
	queue(t, r, 9, 10)
}

func TestPutIntoNoRoom(t *testing.T) {
	r := made(t, 0)
	for _, id := range []int{0, 1, -1, most, least, 0} {
		refused(t, r, id, api.ErrFull)
		absent(t, r, id)
	}
	drained(t, r)
}

func TestPutAnyId(t *testing.T) {
	ids := []int{0, -1, most, least, 1, most - 1, least + 1, api.MaxItems, 1 << 32, -1 << 32}
	r := made(t, len(ids))
	for i, id := range ids {
		absent(t, r, id)
		ticket(t, r, id, i+1)
		refused(t, r, id, api.ErrExists)
	}
	for i, id := range ids {
		if r.Place(id) != i || r.Ticket(id) != i+1 {
			t.Errorf("of %d: Place %d, Ticket %d, want %d, %d", id, r.Place(id), r.Ticket(id), i, i+1)
		}
	}
	absent(t, r, 2, -2, 1<<31, 1<<33)
	queue(t, r, ids...)
	drop(t, r, least, 0)
	absent(t, r, least, 0)
	drained(t, r, -1, most, 1, most-1, least+1, api.MaxItems, 1<<32, -1<<32)
}

func TestRingsAreApart(t *testing.T) {
	a, b := made(t, 2), made(t, 2)
	ticket(t, a, 1, 1)
	ticket(t, b, 2, 1)
	ticket(t, b, 1, 2)
	drop(t, b, 2)
	queue(t, a, 1)
	queue(t, b, 1)
	ticket(t, a, 2, 2)
	ticket(t, b, 2, 3)
}

// P4.2

func TestExamplesOfTheChapter(t *testing.T) {
	r := made(t, 3)
	ticket(t, r, 7, 1)
	ticket(t, r, 9, 2)
	refused(t, r, 7, api.ErrExists)
	drop(t, r, 7)
	ticket(t, r, 7, 3)
	queue(t, r, 9, 7)
	if r.Place(7) != 1 || r.Ticket(7) != 3 {
		t.Errorf("Place %d, Ticket %d", r.Place(7), r.Ticket(7))
	}
}

func TestHeadRemovesNothing(t *testing.T) {
	r := made(t, 3)
	put(t, r, 5, 0)
	for range 3 {
		if id, ok := r.Head(); id != 5 || !ok {
			t.Errorf("Head = %d, %v", id, ok)
		}
	}
	queue(t, r, 5, 0)
	take(t, r, 5)
	// The id is 0 here as it is of an empty queue: only ok tells.
	if id, ok := r.Head(); id != 0 || !ok {
		t.Errorf("Head = %d, %v", id, ok)
	}
	drained(t, r, 0)
}

// TestEmptyKnowsNoId: the positions of a queue hold 0 from the start, and behind Take and Drop they hold what was there.
func TestEmptyKnowsNoId(t *testing.T) {
	r := made(t, 4)
	absent(t, r, 0, 1, -1, most, least)
	put(t, r, 3, 4)
	absent(t, r, 0)
	take(t, r, 3)
	absent(t, r, 3)
	drop(t, r, 4)
	absent(t, r, 3, 4, 0)
	drained(t, r)
	put(t, r, 5)
	absent(t, r, 3, 4, 0)
	queue(t, r, 5)
}

// TestDropFromEveryPosition: at every place of a queue of every length, with its first id at every position of the slice.
func TestDropFromEveryPosition(t *testing.T) {
	for _, room := range []int{1, 2, 3, 4, 5, 8} {
		for by := range room + 4 {
			for length := range room + 1 {
				for place := range length {
					ids := upTo(length)
					r := turned(t, room, by)
					put(t, r, ids...)
					drop(t, r, place)
					absent(t, r, place)
					left := slices.Delete(ids, place, place+1)
					queue(t, r, left...)
					for _, id := range left {
						if want := by + id + 1; r.Ticket(id) != want {
							t.Errorf("room %d, turned by %d, Drop(%d): Ticket(%d) = %d, want %d", room, by, place, id, r.Ticket(id), want)
						}
					}
					ticket(t, r, place, by+length+1)
					queue(t, r, append(left, place)...)
				}
			}
		}
	}
}

func TestDropFirstMiddleLast(t *testing.T) {
	r := made(t, 5)
	put(t, r, 10, 20, 30, 40, 50)
	drop(t, r, 30)
	queue(t, r, 10, 20, 40, 50)
	drop(t, r, 10)
	queue(t, r, 20, 40, 50)
	drop(t, r, 50)
	queue(t, r, 20, 40)
	absent(t, r, 10, 30, 50, 60)
	queue(t, r, 20, 40)
	drop(t, r, 20, 40)
	drained(t, r)
}

func TestIdsComeAgain(t *testing.T) {
	r := made(t, 3)
	put(t, r, 1, 2, 3)
	take(t, r, 1)
	ticket(t, r, 1, 4)
	queue(t, r, 2, 3, 1)
	drop(t, r, 3)
	ticket(t, r, 3, 5)
	queue(t, r, 2, 1, 3)
	drop(t, r, 3)
	ticket(t, r, 3, 6)
	queue(t, r, 2, 1, 3)
	drop(t, r, 2)
	ticket(t, r, 2, 7)
	drained(t, r, 1, 3, 2)
	ticket(t, r, 2, 8)
	queue(t, r, 2)
}

func TestAllIsNewMemory(t *testing.T) {
	for by := range 6 {
		r := turned(t, 4, by)
		put(t, r, 1, 2, 3)
		a, b := r.All(), r.All()
		for i := range a[:cap(a)] {
			a[:cap(a)][i] = 99
		}
		if !slices.Equal(b, []int{1, 2, 3}) {
			t.Errorf("two lists share memory: %v", b)
		}
		queue(t, r, 1, 2, 3)
		drop(t, r, 1)
		put(t, r, 4)
		if !slices.Equal(b, []int{1, 2, 3}) {
			t.Errorf("a list has changed with its queue: %v", b)
		}
		drained(t, r, 2, 3, 4)
	}
}

// P4.3

// TestRoundAbout: the first position goes round the slice some times, with any number of ids in the queue.
func TestRoundAbout(t *testing.T) {
	for _, room := range []int{1, 2, 3, 4, 7, 255, api.MaxItems} {
		for _, length := range []int{1, room/2 + 1, room} {
			r := made(t, room)
			for i := range 3*api.MaxItems + 5 {
				if i >= length {
					take(t, r, i-length-9)
				}
				ticket(t, r, i-9, i+1)
			}
			if r.Len() != length {
				t.Errorf("room %d: Len = %d, want %d", room, r.Len(), length)
			}
			last := upTo(length)
			for i := range last {
				last[i] += 3*api.MaxItems + 5 - length - 9
			}
			queue(t, r, last...)
			drained(t, r, last...)
		}
	}
}

// TestTicketsOutliveDrops: no ticket is given twice, even if the queue has been emptied.
func TestTicketsOutliveDrops(t *testing.T) {
	r := made(t, 4)
	given := 0
	for i := range 3000 {
		given++
		ticket(t, r, i, given)
		given++
		ticket(t, r, -1-i, given)
		switch i % 3 {
		case 0:
			drop(t, r, i, -1-i)
		case 1:
			drop(t, r, -1-i, i)
		default:
			take(t, r, i, -1-i)
		}
	}
	drained(t, r)
	ticket(t, r, 0, given+1)
}

// rival keeps the ids of a queue as a plain list, in the order in which they were put.
type rival struct {
	room, tickets int
	pairs         [][2]int // id and ticket
}

func (v *rival) place(id int) int {
	return slices.IndexFunc(v.pairs, func(p [2]int) bool { return p[0] == id })
}

func (v *rival) put(id int) (int, api.Errno) {
	switch {
	case v.place(id) >= 0:
		return 0, api.ErrExists
	case len(v.pairs) == v.room:
		return 0, api.ErrFull
	}
	v.tickets++
	v.pairs = append(v.pairs, [2]int{id, v.tickets})
	return v.tickets, api.OK
}

func (v *rival) take() (int, bool) {
	if len(v.pairs) == 0 {
		return 0, false
	}
	id := v.pairs[0][0]
	v.pairs = v.pairs[1:]
	return id, true
}

func (v *rival) drop(id int) bool {
	i := v.place(id)
	if i >= 0 {
		v.pairs = slices.Delete(v.pairs, i, i+1)
	}
	return i >= 0
}

// step does one call on both, and tells whether they answer alike.
func step(r *Ring, v *rival, call, id int) bool {
	switch call {
	case 0:
		a, b := r.Put(id)
		x, y := v.put(id)
		return a == x && b == y
	case 1:
		return r.Drop(id) == v.drop(id)
	}
	a, b := r.Take()
	x, y := v.take()
	return a == x && b == y
}

// alike tells whether both have the same ids with the same tickets in the same order.
func alike(r *Ring, v *rival) bool {
	all := r.All()
	if len(all) != len(v.pairs) || r.Len() != len(v.pairs) {
		return false
	}
	for i, p := range v.pairs {
		if all[i] != p[0] || r.Place(p[0]) != i || r.Ticket(p[0]) != p[1] {
			return false
		}
		if i > 0 && v.pairs[i-1][1] >= p[1] {
			return false
		}
	}
	id, ok := r.Head()
	if len(all) == 0 {
		return id == 0 && !ok
	}
	return id == all[0] && ok
}

// copied returns a queue that goes on as r does, so that each can be given other calls.
func copied(r *Ring) *Ring {
	c := *r
	c.items = slices.Clone(r.items)
	return &c
}

// TestAllShortRuns goes through every run of some calls with few ids, with the first id at every position of the slice.
func TestAllShortRuns(t *testing.T) {
	type call struct{ kind, id int }
	calls := []call{{2, 0}}
	for id := range 4 {
		calls = append(calls, call{0, id}, call{1, id})
	}
	var run func(r *Ring, v *rival, told []call)
	run = func(r *Ring, v *rival, told []call) {
		for _, c := range calls {
			s, w := copied(r), &rival{v.room, v.tickets, slices.Clone(v.pairs)}
			now := append(slices.Clone(told), c)
			if !step(s, w, c.kind, c.id) || !alike(s, w) {
				t.Fatalf("room %d, calls %v: %v, want %v", v.room, now, s.All(), w.pairs)
			}
			if len(now) < 4 {
				run(s, w, now)
			}
		}
	}
	run(made(t, 0), &rival{}, nil)
	for room := 1; room <= 4; room++ {
		for by := range 4 {
			for length := range room + 1 {
				r, v := turned(t, room, by), &rival{room: room, tickets: by}
				for id := range length {
					put(t, r, id)
					v.put(id)
				}
				run(r, v, nil)
			}
		}
	}
}

// TestLongRuns goes through many calls with ids in a fixed order.
func TestLongRuns(t *testing.T) {
	state := uint64(1)
	next := func(n int) int {
		state = state*6364136223846793005 + 1442695040888963407
		return int(state>>33) % n
	}
	for _, room := range []int{1, 2, 3, 6, 8, 40, 255, api.MaxItems} {
		r, v := made(t, room), &rival{room: room}
		for i := range 6000 {
			kind, id := next(3), next(room+room/8+2)-1
			if kind > 0 && next(4) > 0 {
				kind = 0 // else the queue would hardly fill
			}
			if id == 0 {
				id = []int{least, most}[next(2)]
			}
			if !step(r, v, kind, id) || !alike(r, v) {
				t.Fatalf("room %d, call %d: kind %d, id %d: %v, want %v", room, i, kind, id, r.All(), v.pairs)
			}
		}
		for _, p := range slices.Clone(v.pairs) {
			take(t, r, p[0])
		}
		drained(t, r)
	}
}

// Ways

// TestSizeIsAPowerOfTwo: the least one that holds the room; a position never leaves the slice.
func TestSizeIsAPowerOfTwo(t *testing.T) {
	for room := range api.MaxItems + 1 {
		r := made(t, room)
		size := len(r.items)
		if size < 1 || size&(size-1) != 0 || size < room || size/2 >= max(room, 1) || r.mask != size-1 {
			t.Errorf("room %d: size %d, mask %d", room, size, r.mask)
		}
		for r.first = range size {
			for place := range size {
				if want := (r.first + place) % size; r.position(place) != want {
					t.Fatalf("room %d, first %d: position(%d) = %d, want %d", room, r.first, place, r.position(place), want)
				}
			}
		}
	}
}

// TestImports: the chapter lets the layer import package api only.
func TestImports(t *testing.T) {
	files, err := filepath.Glob("*.go")
	if err != nil || len(files) == 0 {
		t.Fatal(files, err)
	}
	for _, name := range files {
		if strings.HasSuffix(name, "_test.go") {
			continue
		}
		file, err := parser.ParseFile(token.NewFileSet(), name, nil, parser.ImportsOnly)
		if err != nil {
			t.Fatal(err)
		}
		for _, i := range file.Imports {
			if i.Path.Value != `"tourbillon/api"` {
				t.Errorf("%s imports %s", name, i.Path.Value)
			}
		}
	}
}
