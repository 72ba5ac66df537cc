package heap

import (
	"cmp"
	"go/parser"
	"go/token"
	"path/filepath"
	"slices"
	"strings"
	"testing"

	"tourbillon/api"
)

const (
	most  = 1<<63 - 1
	least = -1 << 63
)

// made returns a heap of that room.
func made(t *testing.T, room int) *Heap {
	t.Helper()
	h, err := New(room)
	if err != api.OK || h == nil {
		t.Fatalf("New(%d) = %v, %d", room, h, err)
	}
	return h
}

// push inserts pairs of id and key, all of which fit.
func push(t *testing.T, h *Heap, pairs ...[2]int) {
	t.Helper()
	for _, p := range pairs {
		if err := h.Push(p[0], p[1]); err != api.OK {
			t.Fatalf("Push(%d, %d) = %d", p[0], p[1], err)
		}
	}
}

// errno holds an answer against the one that is wanted.
func errno(t *testing.T, name string, got, want api.Errno) {
	t.Helper()
	if got != want {
		t.Errorf("%s = %d, want %d", name, got, want)
	}
}

// order holds All, Len and First against the ids that are wanted.
func order(t *testing.T, h *Heap, want ...int) {
	t.Helper()
	if got := h.All(); !slices.Equal(got, want) {
		t.Errorf("All = %v, want %v", got, want)
	}
	if h.Len() != len(want) {
		t.Errorf("Len = %d, want %d", h.Len(), len(want))
	}
	id, key, ok := h.First()
	if len(want) == 0 {
		if id != 0 || key != 0 || ok {
			t.Errorf("First of none = %d, %d, %v", id, key, ok)
		}
		return
	}
	of, known := h.Key(want[0])
	if id != want[0] || key != of || !ok || !known {
		t.Errorf("First = %d, %d, %v, want %d, %d", id, key, ok, want[0], of)
	}
}

// drained holds what Pop answers until the heap is empty against the ids that are wanted.
func drained(t *testing.T, h *Heap, want ...int) {
	t.Helper()
	for i, w := range want {
		if id, _, ok := h.Pop(); id != w || !ok {
			t.Errorf("Pop %d = %d, %v, want %d", i, id, ok, w)
		}
	}
	if id, key, ok := h.Pop(); id != 0 || key != 0 || ok {
		t.Errorf("Pop of none = %d, %d, %v", id, key, ok)
	}
	order(t, h)
}

// P2.1

func TestNewRoom(t *testing.T) {
	for _, room := range []int{0, 1, 2, 255, api.MaxItems} {
		order(t, made(t, room))
	}
	for _, room := range []int{-1, api.MaxItems + 1, most, least, 1 << 32} {
		if h, err := New(room); h != nil || err != api.ErrArg {
			t.Errorf("New(%d) = %v, %d", room, h, err)
		}
	}
}

func TestPushUntilFull(t *testing.T) {
	for _, room := range []int{0, 1, 2, 3, 255, api.MaxItems} {
		h := made(t, room)
		want := make([]int, room)
		for i := range room {
			push(t, h, [2]int{i, -i})
			want[room-1-i] = i
		}
		errno(t, "Push into a full one", h.Push(room, least), api.ErrFull)
		order(t, h, want...)
		if key, ok := h.Key(room); key != 0 || ok {
			t.Errorf("what found no room has key %d, %v", key, ok)
		}
		drained(t, h, want...)
	}
}

func TestPushFindsRoomAgain(t *testing.T) {
	h := made(t, 2)
	push(t, h, [2]int{1, 1}, [2]int{2, 2})
	errno(t, "full", h.Push(3, 3), api.ErrFull)
	h.Pop()
	push(t, h, [2]int{3, 3})
	errno(t, "full again", h.Push(4, 4), api.ErrFull)
	errno(t, "Remove", h.Remove(2), api.OK)
	push(t, h, [2]int{4, 0})
	errno(t, "full once more", h.Push(5, 5), api.ErrFull)
	order(t, h, 4, 3)
}

func TestPushWrong(t *testing.T) {
	h := made(t, 2)
	errno(t, "negative", h.Push(-1, 0), api.ErrArg)
	errno(t, "least", h.Push(least, 0), api.ErrArg)
	order(t, h)
	push(t, h, [2]int{4, 7})
	errno(t, "twice, there is room", h.Push(4, 7), api.ErrExists)
	errno(t, "twice, another key", h.Push(4, 1), api.ErrExists)
	push(t, h, [2]int{5, 7})
	errno(t, "negative, full", h.Push(-1, 0), api.ErrArg)
	errno(t, "twice, full", h.Push(4, 9), api.ErrExists)
	errno(t, "full", h.Push(6, 0), api.ErrFull)
	order(t, h, 4, 5)
	if key, ok := h.Key(4); key != 7 || !ok {
		t.Errorf("a refused Push left key %d, %v", key, ok)
	}
}

func TestPushIntoNoRoom(t *testing.T) {
	h := made(t, 0)
	errno(t, "negative", h.Push(-1, 0), api.ErrArg)
	errno(t, "full", h.Push(0, 0), api.ErrFull)
	errno(t, "Change", h.Change(0, 0), api.ErrNone)
	errno(t, "Remove", h.Remove(0), api.ErrNone)
	drained(t, h)
}

func TestPushAnyIdAndKey(t *testing.T) {
	h := made(t, 8)
	push(t, h, [2]int{most, 0}, [2]int{0, most}, [2]int{1, least}, [2]int{2, -1}, [2]int{3, most - 1}, [2]int{4, least + 1}, [2]int{5, least}, [2]int{6, most})
	for _, p := range [][2]int{{most, 0}, {0, most}, {1, least}, {6, most}} {
		if key, ok := h.Key(p[0]); key != p[1] || !ok {
			t.Errorf("Key(%d) = %d, %v, want %d", p[0], key, ok, p[1])
		}
	}
	order(t, h, 1, 5, 4, 2, most, 3, 0, 6)
	drained(t, h, 1, 5, 4, 2, most, 3, 0, 6)
}

func TestHeapsAreApart(t *testing.T) {
	a, b := made(t, 2), made(t, 2)
	push(t, a, [2]int{1, 1})
	push(t, b, [2]int{1, 9}, [2]int{2, 5})
	errno(t, "Remove", b.Remove(1), api.OK)
	order(t, a, 1)
	order(t, b, 2)
}

// P2.2

func TestExamplesOfTheChapter(t *testing.T) {
	h := made(t, 3)
	push(t, h, [2]int{7, 5}, [2]int{8, 5}, [2]int{9, 1})
	order(t, h, 9, 7, 8)
	errno(t, "Push of 7", h.Push(7, 1), api.ErrExists)
	errno(t, "Change", h.Change(7, 5), api.OK)
	order(t, h, 9, 8, 7)
	errno(t, "Remove", h.Remove(9), api.OK)
	if id, key, ok := h.Pop(); id != 8 || key != 5 || !ok {
		t.Errorf("Pop = %d, %d, %v", id, key, ok)
	}
}

func TestFirstRemovesNothing(t *testing.T) {
	h := made(t, 3)
	push(t, h, [2]int{0, 0}, [2]int{1, -3})
	for range 3 {
		if id, key, ok := h.First(); id != 1 || key != -3 || !ok {
			t.Errorf("First = %d, %d, %v", id, key, ok)
		}
	}
	order(t, h, 1, 0)
	h.Pop()
	// The id and the key are 0 here as they are of an empty heap: only ok tells.
	if id, key, ok := h.First(); id != 0 || key != 0 || !ok {
		t.Errorf("First = %d, %d, %v", id, key, ok)
	}
}

func TestKey(t *testing.T) {
	h := made(t, 3)
	push(t, h, [2]int{0, 0}, [2]int{1, -3})
	h.Change(1, 4)
	for id, want := range []int{0, 4} {
		if key, ok := h.Key(id); key != want || !ok {
			t.Errorf("Key(%d) = %d, %v, want %d", id, key, ok, want)
		}
	}
	h.Pop()
	for _, id := range []int{0, 2, -1, most, least} {
		if key, ok := h.Key(id); key != 0 || ok {
			t.Errorf("Key(%d) of none = %d, %v", id, key, ok)
		}
	}
}

func TestChange(t *testing.T) {
	h := made(t, 4)
	push(t, h, [2]int{0, 10}, [2]int{1, 10}, [2]int{2, 10}, [2]int{3, 20})
	errno(t, "the same key", h.Change(0, 10), api.OK)
	order(t, h, 1, 2, 0, 3)
	errno(t, "the same key, the last of its kind", h.Change(0, 10), api.OK)
	order(t, h, 1, 2, 0, 3)
	errno(t, "a greater key", h.Change(1, 20), api.OK)
	order(t, h, 2, 0, 3, 1)
	errno(t, "a smaller key, which others have", h.Change(3, 10), api.OK)
	order(t, h, 2, 0, 3, 1)
	errno(t, "the least key", h.Change(1, least), api.OK)
	order(t, h, 1, 2, 0, 3)
	errno(t, "the greatest key", h.Change(2, most), api.OK)
	order(t, h, 1, 0, 3, 2)
}

func TestChangeAndRemoveOfNone(t *testing.T) {
	h := made(t, 4)
	errno(t, "Change, empty", h.Change(0, 1), api.ErrNone)
	errno(t, "Remove, empty", h.Remove(0), api.ErrNone)
	push(t, h, [2]int{1, 5}, [2]int{2, 5})
	for _, id := range []int{0, 3, -1, most, least} {
		errno(t, "Change", h.Change(id, 1), api.ErrNone)
		errno(t, "Remove", h.Remove(id), api.ErrNone)
	}
	order(t, h, 1, 2)
	errno(t, "Remove", h.Remove(1), api.OK)
	errno(t, "Remove again", h.Remove(1), api.ErrNone)
	errno(t, "Change of what was removed", h.Change(1, 1), api.ErrNone)
	h.Pop()
	errno(t, "Remove of what was popped", h.Remove(2), api.ErrNone)
	errno(t, "Change of what was popped", h.Change(2, 1), api.ErrNone)
	order(t, h)
}

func TestIdsComeAgain(t *testing.T) {
	h := made(t, 3)
	push(t, h, [2]int{1, 5}, [2]int{2, 5}, [2]int{3, 5})
	errno(t, "Remove", h.Remove(1), api.OK)
	push(t, h, [2]int{1, 5})
	order(t, h, 2, 3, 1)
	h.Pop()
	push(t, h, [2]int{2, 4})
	order(t, h, 2, 3, 1)
	drained(t, h, 2, 3, 1)
	push(t, h, [2]int{3, 5}, [2]int{1, 5})
	order(t, h, 3, 1)
}

// TestRemoveFromAnotherBranch: what takes the position of the removed one belongs above it.
func TestRemoveFromAnotherBranch(t *testing.T) {
	h := made(t, 7)
	push(t, h, [2]int{0, 0}, [2]int{1, 10}, [2]int{2, 1}, [2]int{3, 11}, [2]int{4, 12}, [2]int{5, 20}, [2]int{6, 3})
	errno(t, "Remove", h.Remove(3), api.OK)
	order(t, h, 0, 2, 6, 1, 4, 5)
	drained(t, h, 0, 2, 6, 1, 4, 5)
}

func TestAllIsNewMemory(t *testing.T) {
	h := made(t, 4)
	push(t, h, [2]int{1, 1}, [2]int{2, 2}, [2]int{3, 3})
	h.Pop()
	a, b := h.All(), h.All()
	for i := range a[:cap(a)] {
		a[:cap(a)][i] = 99
	}
	if !slices.Equal(b, []int{2, 3}) {
		t.Errorf("two lists share memory: %v", b)
	}
	order(t, h, 2, 3)
	drained(t, h, 2, 3)
}

// P2.3

func TestEqualKeysKeepTheirOrder(t *testing.T) {
	h := made(t, api.MaxItems)
	var want []int
	for i := range api.MaxItems {
		id := i * 37 % api.MaxItems // all ids, neither rising nor falling
		push(t, h, [2]int{id, 4})
		want = append(want, id)
	}
	order(t, h, want...)
	for i := 0; i < len(want); i += 2 {
		errno(t, "Remove", h.Remove(want[i]), api.OK)
		want = slices.Delete(want, i, i+1)
	}
	order(t, h, want...)
	drained(t, h, want...)
}

// rival keeps the ids of a heap as a plain list in the order of their turns.
type rival struct {
	room  int
	pairs [][2]int // id and key
}

func (r *rival) at(id int) int {
	return slices.IndexFunc(r.pairs, func(p [2]int) bool { return p[0] == id })
}

func (r *rival) push(id, key int) api.Errno {
	switch {
	case id < 0:
		return api.ErrArg
	case r.at(id) >= 0:
		return api.ErrExists
	case len(r.pairs) == r.room:
		return api.ErrFull
	}
	r.pairs = append(r.pairs, [2]int{id, key})
	return api.OK
}

func (r *rival) remove(id int) api.Errno {
	i := r.at(id)
	if i < 0 {
		return api.ErrNone
	}
	r.pairs = slices.Delete(r.pairs, i, i+1)
	return api.OK
}

func (r *rival) change(id, key int) api.Errno {
	if err := r.remove(id); err != api.OK {
		return err
	}
	return r.push(id, key)
}

func (r *rival) all() [][2]int {
	list := slices.Clone(r.pairs)
	slices.SortStableFunc(list, func(a, b [2]int) int { return cmp.Compare(a[1], b[1]) })
	return list
}

func (r *rival) pop() (int, int, bool) {
	list := r.all()
	if len(list) == 0 {
		return 0, 0, false
	}
	r.remove(list[0][0])
	return list[0][0], list[0][1], true
}

// step does one call on both, and tells whether they answer alike.
func step(h *Heap, r *rival, call, id, key int) bool {
	switch call {
	case 0:
		return h.Push(id, key) == r.push(id, key)
	case 1:
		return h.Change(id, key) == r.change(id, key)
	case 2:
		return h.Remove(id) == r.remove(id)
	}
	a, b, c := h.Pop()
	x, y, z := r.pop()
	return a == x && b == y && c == z
}

// alike tells whether both have the same ids with the same keys in the same order, and whether each part of the heap fits the others.
func alike(h *Heap, r *rival) bool {
	want := r.all()
	got := h.All()
	if len(got) != len(want) || h.Len() != len(want) || len(h.place) != len(want) {
		return false
	}
	for i, p := range want {
		key, ok := h.Key(p[0])
		if got[i] != p[0] || key != p[1] || !ok {
			return false
		}
	}
	id, key, ok := h.First()
	if len(want) == 0 {
		return id == 0 && key == 0 && !ok
	}
	return id == want[0][0] && key == want[0][1] && ok
}

// copied returns a heap that goes on as h does, so that h can be drained.
func copied(h *Heap) *Heap {
	place := make(map[int]int)
	for i, it := range h.items {
		place[it.id] = i
	}
	return &Heap{room: h.room, turns: h.turns, items: slices.Clone(h.items), place: place}
}

// popsAll tells whether Pop answers the ids in the order of All.
func popsAll(h *Heap) bool {
	scratch := copied(h)
	for _, want := range h.All() {
		if id, _, ok := scratch.Pop(); id != want || !ok {
			return false
		}
	}
	_, _, ok := scratch.Pop()
	return !ok && scratch.Len() == 0
}

// TestAllShortRuns goes through every run of some calls with few ids and keys.
func TestAllShortRuns(t *testing.T) {
	type call struct{ kind, id, key int }
	calls := []call{{3, 0, 0}}
	for id := range 3 {
		calls = append(calls, call{0, id, 1}, call{0, id, 2}, call{1, id, 1}, call{1, id, 2}, call{2, id, 0})
	}
	var run func(h *Heap, r *rival, told []call)
	run = func(h *Heap, r *rival, told []call) {
		for _, c := range calls {
			g, s := copied(h), &rival{r.room, slices.Clone(r.pairs)}
			now := append(slices.Clone(told), c)
			if !step(g, s, c.kind, c.id, c.key) || !alike(g, s) || !popsAll(g) {
				t.Fatalf("room %d, calls %v: %v, want %v", r.room, now, g.All(), s.all())
			}
			if len(now) < 4 {
				run(g, s, now)
			}
		}
	}
	for room := range 4 {
		run(made(t, room), &rival{room: room}, nil)
	}
}

// TestLongRuns goes through many calls with ids and keys in a fixed order.
func TestLongRuns(t *testing.T) {
	state := uint64(1)
	next := func(n int) int {
		state = state*6364136223846793005 + 1442695040888963407
		return int(state>>33) % n
	}
	keys := []int{least, least + 1, -1, 0, 1, most - 1, most}
	for _, room := range []int{1, 2, 7, 40, api.MaxItems} {
		h, r := made(t, room), &rival{room: room}
		for i := range 6000 {
			key := next(20) - 10
			if next(3) == 0 {
				key = keys[next(len(keys))]
			}
			kind, id := next(4), next(room+room/8+2)-1
			if kind == 3 && next(3) > 0 {
				kind = 0 // else the heap would hardly fill
			}
			if !step(h, r, kind, id, key) || !alike(h, r) {
				t.Fatalf("room %d, call %d: kind %d, id %d, key %d: %v, want %v", room, i, kind, id, key, h.All(), r.all())
			}
			if i%50 == 0 && !popsAll(h) {
				t.Fatalf("room %d, call %d: Pop is not in the order of All", room, i)
			}
		}
	}
}

// TestImports: the chapter lets the layer import package api only.
func TestImports(t *testing.T) {
	files, err := filepath.Glob("*.go")
	if err != nil || len(files) == 0 {
		t.Fatal(files, err)
	}
	for _, name := range files {
		if strings.HasSuffix(name, "_test.go") {
			continue
		}
		file, err := parser.ParseFile(token.NewFileSet(), name, nil, parser.ImportsOnly)
		if err != nil {
			t.Fatal(err)
		}
		for _, i := range file.Imports {
			if i.Path.Value != `"tourbillon/api"` {
				t.Errorf("%s imports %s", name, i.Path.Value)
			}
		}
	}
}
