package table

import (
	"reflect"
	"slices"
	"testing"

	"tourbillon/analysis"
	"tourbillon/api"
	"tourbillon/pack"
)

// listed returns the numbers of t, valid or not, as the chapters tell their order.
func listed(t api.Table) []int {
	s := t.System
	l := []int{2, 1, s.Cores, s.Policy, s.Protocol, s.Release, s.Switch, s.Finish, s.Latency, s.Resources, len(s.Tasks)}
	for _, task := range s.Tasks {
		l = append(l, task.Period, task.Deadline, task.Wcet, len(task.Sections))
		for _, c := range task.Sections {
			l = append(l, c.At, c.Res, c.Len)
		}
	}
	for _, e := range t.Entries {
		l = append(l, len(e.Pieces))
		for _, p := range e.Pieces {
			tight := 0
			if p.Tight {
				tight = 1
			}
			l = append(l, p.Core, p.Budget, p.Deadline, p.Priority, tight)
		}
		l = append(l, e.Bound)
	}
	return l
}

// taker takes numbers by their positions, and keeps whether there was each of them.
type taker struct {
	l     []int
	at    int
	wrong bool
}

func (p *taker) take() int {
	p.at++
	if p.at > len(p.l) {
		p.wrong = true
		return 0
	}
	return p.l[p.at-1]
}

// count takes how many of something follow, each of which has at least one number.
func (p *taker) count() int {
	n := p.take()
	if n > len(p.l)-p.at {
		p.wrong = true
		return 0
	}
	return n
}

// spell returns the table of which l are the numbers; false if they are not those of a valid one.
func spell(l []int) (api.Table, bool) {
	p := &taker{l: l}
	if p.take() != 2 || p.take() != 1 {
		return api.Table{}, false
	}
	var t api.Table
	s := &t.System
	for _, place := range []*int{&s.Cores, &s.Policy, &s.Protocol, &s.Release, &s.Switch, &s.Finish, &s.Latency, &s.Resources} {
		*place = p.take()
	}
	for range p.count() {
		task := api.Task{Period: p.take(), Deadline: p.take(), Wcet: p.take()}
		for range p.count() {
			task.Sections = append(task.Sections, api.Section{At: p.take(), Res: p.take(), Len: p.take()})
		}
		s.Tasks = append(s.Tasks, task)
	}
	for range s.Tasks {
		e := api.Entry{}
		for range p.count() {
			e.Pieces = append(e.Pieces, api.Piece{Core: p.take(), Budget: p.take(), Deadline: p.take(), Priority: p.take()})
			tight := p.take()
			e.Pieces[len(e.Pieces)-1].Tight = tight == 1
			p.wrong = p.wrong || tight > 1
		}
		e.Bound = p.take()
		t.Entries = append(t.Entries, e)
	}
	if p.wrong || p.at != len(l) {
		return api.Table{}, false
	}
	t.Ceilings, _ = analysis.Ceilings(*s, bare(t))
	return t, judged(t)
}

// bare returns the plan of t without its Priorities.
func bare(t api.Table) [][]api.Piece {
	plan := [][]api.Piece{}
	for _, e := range t.Entries {
		pieces := slices.Clone(e.Pieces)
		for i := range pieces {
			pieces[i].Priority = 0
		}
		plan = append(plan, pieces)
	}
	return plan
}

// judged is Right in other words: a valid table is the same as the one that is put together from its system, its plan and its bounds.
func judged(t api.Table) bool {
	plan := bare(t)
	if !analysis.Right(t.System, plan) {
		return false
	}
	for task, pieces := range plan {
		open := true
		for _, p := range pieces {
			open = open && p.Tight // also if there is none
		}
		b := t.Entries[task].Bound
		if open || b <= 0 || b > t.System.Tasks[task].Deadline {
			return false
		}
	}
	return alike(t, together(t.System, plan, boundsOf(t)))
}

// together returns a table that shares nothing with its parts, which are a valid plan and as many bounds.
func together(s api.System, plan [][]api.Piece, bounds []int) api.Table {
	ranked, _ := analysis.Rank(s, plan)
	ceilings, _ := analysis.Ceilings(s, plan)
	t := api.Table{System: s, Ceilings: ceilings}
	for task := range ranked {
		t.Entries = append(t.Entries, api.Entry{Pieces: ranked[task], Bound: bounds[task]})
	}
	return plain(t)
}

func boundsOf(t api.Table) []int {
	var l []int
	for _, e := range t.Entries {
		l = append(l, e.Bound)
	}
	return l
}

// plain returns a copy of t of which all lists are there and share nothing with t.
func plain(t api.Table) api.Table {
	t.System.Tasks = append([]api.Task{}, t.System.Tasks...)
	for i := range t.System.Tasks {
		t.System.Tasks[i].Sections = append([]api.Section{}, t.System.Tasks[i].Sections...)
	}
	t.Entries = append([]api.Entry{}, t.Entries...)
	for i := range t.Entries {
		t.Entries[i].Pieces = append([]api.Piece{}, t.Entries[i].Pieces...)
	}
	t.Ceilings = append([][]int{}, t.Ceilings...)
	for i := range t.Ceilings {
		t.Ceilings[i] = append([]int{}, t.Ceilings[i]...)
	}
	return t
}

// alike reports whether two tables are equal by all their parts, nil lists being equal to empty ones.
func alike(t, u api.Table) bool { return reflect.DeepEqual(plain(t), plain(u)) }

// nothing reports whether t is the zero value.
func nothing(t api.Table) bool { return reflect.DeepEqual(t, api.Table{}) }

// sealed returns numbers that pack writes as the bytes of a table, whether they are those of one or not.
func sealed(t *testing.T, l ...int) string {
	t.Helper()
	content, err := pack.Write(l)
	if err != api.OK {
		t.Fatalf("Write(%v): %d", l, err)
	}
	return sealedBytes(t, content)
}

// sealedBytes returns a content with its checksum.
func sealedBytes(t *testing.T, content string) string {
	t.Helper()
	b, err := pack.Seal(content)
	if err != api.OK {
		t.Fatalf("Seal of %d bytes: %d", len(content), err)
	}
	return b
}

// spelt holds Decode, and Encode of what it answers, against what is spelt; true if l are the numbers of a valid table.
func spelt(t *testing.T, l []int) bool {
	t.Helper()
	want, ok := spell(l)
	if !ok {
		rejects(t, sealed(t, l...), api.ErrForm)
		return false
	}
	decodes(t, want, l)
	return true
}

// decodes holds what the calls answer for the numbers of a valid table against that table.
func decodes(t *testing.T, want api.Table, l []int) {
	t.Helper()
	b := sealed(t, l...)
	got, err := Decode(b)
	if err != api.OK || !alike(got, want) || !Right(got) {
		t.Fatalf("Decode(%v) = %v, %d, want %v", l, got, err, want)
	}
	if again, err := Encode(got); again != b || err != api.OK {
		t.Fatalf("Encode(%v) = % x, %d, want % x", got, again, err, b)
	}
}

// rejects holds the error of Decode against the one that is wanted.
func rejects(t *testing.T, b string, want api.Errno) {
	t.Helper()
	if got, err := Decode(b); !nothing(got) || err != want {
		t.Fatalf("Decode(% x) of %d = %v, %d, want %d", b[:min(len(b), 80)], len(b), got, err, want)
	}
}

// judges holds Right and Encode against whether a table is valid.
func judges(t *testing.T, u api.Table, want bool) {
	t.Helper()
	if Right(u) != want || judged(u) != want {
		t.Fatalf("Right(%v) = %v, want %v", u, Right(u), want)
	}
	b, err := Encode(u)
	if want && (err != api.OK || b != sealed(t, listed(u)...)) || !want && (err != api.ErrArg || b != "") {
		t.Fatalf("Encode(%v) = % x, %d", u, b, err)
	}
}

// makes holds what Make returns against what its arguments are put together to.
func makes(t *testing.T, s api.System, plan [][]api.Piece, bounds []int) api.Table {
	t.Helper()
	got, err := Make(s, plan, bounds)
	if want := together(s, plan, bounds); err != api.OK || !alike(got, want) {
		t.Fatalf("Make(%v, %v, %v) = %v, %d, want %v", s, plan, bounds, got, err, want)
	}
	judges(t, got, true)
	return got
}

// refuses holds that Make returns ErrArg, and nothing else.
func refuses(t *testing.T, s api.System, plan [][]api.Piece, bounds []int) {
	t.Helper()
	if got, err := Make(s, plan, bounds); !nothing(got) || err != api.ErrArg {
		t.Fatalf("Make(%v, %v, %v) = %v, %d", s, plan, bounds, got, err)
	}
}
