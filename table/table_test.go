package table

import (
	"go/ast"
	"go/parser"
	"go/token"
	"path/filepath"
	"slices"
	"strings"
	"testing"

	"tourbillon/analysis"
	"tourbillon/api"
	"tourbillon/pack"
	"tourbillon/place"
)

const (
	most     = 1<<63 - 1
	least    = -1 << 63
	greatest = 1 << 62 // the greatest number that has an encoding
)

// task returns one whose Deadline is its Period.
func task(period, wcet int, sections ...api.Section) api.Task {
	return api.Task{Period: period, Deadline: period, Wcet: wcet, Sections: sections}
}

// fixed returns a valid system without costs, under Fixed and Msrp.
func fixed(cores, resources int, tasks ...api.Task) api.System {
	return api.System{Cores: cores, Policy: api.Fixed, Protocol: api.Msrp, Latency: 1, Resources: resources, Tasks: tasks}
}

// early returns a Tight piece.
func early(core, budget int) api.Piece {
	return api.Piece{Core: core, Budget: budget, Deadline: budget, Tight: true}
}

// last returns a piece that is not Tight.
func last(core, budget, deadline int) api.Piece {
	return api.Piece{Core: core, Budget: budget, Deadline: deadline}
}

// one returns the system of chapter 7's example, with the whole task on its core.
func one() (api.System, [][]api.Piece, []int) {
	return fixed(1, 0, task(10, 3)), [][]api.Piece{{last(0, 3, 10)}}, []int{3}
}

// halves returns three tasks on two cores, the third of which is split.
func halves() (api.System, [][]api.Piece, []int) {
	return fixed(2, 0, task(10, 6), task(10, 6), task(10, 6)),
		[][]api.Piece{{last(0, 6, 10)}, {last(1, 6, 10)}, {early(0, 4), last(1, 2, 6)}},
		[]int{10, 8, 6}
}

// sharing returns a system under Edf with costs and resources, and a task that is split.
func sharing() (api.System, [][]api.Piece, []int) {
	s := api.System{
		Cores: 2, Policy: api.Edf, Protocol: api.Msrp, Release: 1, Switch: 2, Finish: 3, Latency: 3, Resources: 2,
		Tasks: []api.Task{
			{Period: 300, Deadline: 200, Wcet: 100, Sections: []api.Section{{At: 7, Res: 1, Len: 9}}},
			task(1000, 50),
		},
	}
	return s, [][]api.Piece{{last(1, 100, 200)}, {early(0, 20), last(1, 30, 978)}}, []int{200, 129}
}

// mixed returns a system under Mrsp with costs, resources, Priorities that are not in the order of the tasks, and a task that is split twice.
func mixed() (api.System, [][]api.Piece, []int) {
	s := api.System{
		Cores: 3, Policy: api.Fixed, Protocol: api.Mrsp, Release: 1, Switch: 2, Finish: 3, Latency: 4, Resources: 3,
		Tasks: []api.Task{
			task(900, 60, api.Section{At: 2, Res: 0, Len: 3}, api.Section{At: 5, Res: 2, Len: 4}),
			task(500, 50),
			task(800, 70, api.Section{At: 0, Res: 2, Len: 1}),
			task(700, 9),
		},
	}
	return s, [][]api.Piece{
		{last(2, 60, 900)},
		{early(1, 10), early(0, 15), last(2, 25, 469)},
		{last(2, 70, 800)},
		{last(0, 9, 700)},
	}, []int{900, 480, 1, 77}
}

// large returns the table with the most numbers that there is: a task with MaxPieces pieces, and 23 tasks with sections.
func large() (api.System, [][]api.Piece, []int) {
	s := api.System{Cores: 8, Policy: api.Fixed, Protocol: api.Mrsp, Release: 50, Switch: 50, Finish: 50, Latency: 50, Resources: 8}
	s.Tasks = append(s.Tasks, task(api.MaxTime, 800))
	plan := [][]api.Piece{nil}
	left := api.MaxTime
	for core := range 7 {
		plan[0] = append(plan[0], early(core, 100))
		left -= 149
	}
	plan[0] = append(plan[0], last(7, 100, left))
	bounds := []int{api.MaxTime}
	for i := range 23 {
		period := api.MaxTime - i%5
		s.Tasks = append(s.Tasks, task(period, 100+i, api.Section{At: 0, Res: i % 8, Len: 1}, api.Section{At: 1, Res: 7, Len: 2}, api.Section{At: 5, Res: 0, Len: 50}, api.Section{At: 60, Res: i % 3, Len: 40}))
		plan = append(plan, []api.Piece{last(7, 100+i, period)})
		bounds = append(bounds, period)
	}
	return s, plan, bounds
}

// parts is what returns the arguments of Make for a valid table.
type parts func() (api.System, [][]api.Piece, []int)

// ordinary returns parts of tables of all kinds.
func ordinary() []parts { return []parts{one, halves, sharing, mixed, large} }

// made returns the table of parts.
func made(t *testing.T, p parts) api.Table {
	t.Helper()
	s, plan, bounds := p()
	u, err := Make(s, plan, bounds)
	if err != api.OK {
		t.Fatalf("Make(%v, %v, %v): %d", s, plan, bounds, err)
	}
	return u
}

// systemPlaces returns where the numbers of a system stand.
func systemPlaces(s *api.System) []*int {
	l := []*int{&s.Cores, &s.Policy, &s.Protocol, &s.Release, &s.Switch, &s.Finish, &s.Latency, &s.Resources}
	for i := range s.Tasks {
		task := &s.Tasks[i]
		l = append(l, &task.Period, &task.Deadline, &task.Wcet)
		for j := range task.Sections {
			l = append(l, &task.Sections[j].At, &task.Sections[j].Res, &task.Sections[j].Len)
		}
	}
	return l
}

// tablePlaces returns where the numbers of a table stand, its Ceilings included.
func tablePlaces(t *api.Table) []*int {
	l := systemPlaces(&t.System)
	for i := range t.Entries {
		e := &t.Entries[i]
		for j := range e.Pieces {
			p := &e.Pieces[j]
			l = append(l, &p.Core, &p.Budget, &p.Deadline, &p.Priority)
		}
		l = append(l, &e.Bound)
	}
	for _, row := range t.Ceilings {
		for i := range row {
			l = append(l, &row[i])
		}
	}
	return l
}

// P19.1

func TestExamplesOfTheChapter(t *testing.T) {
	for _, s := range []api.System{
		fixed(2, 0, task(10, 6), task(10, 6)),
		fixed(2, 0, task(10, 6), task(10, 6), task(10, 6)),
		fixed(2, 1, task(100, 1, api.Section{At: 0, Res: 0, Len: 1}), task(10, 6), task(10, 6), task(10, 6)),
	} {
		plan, bounds, err := place.Place(s)
		if err != api.OK {
			t.Fatalf("Place(%v): %d", s, err)
		}
		if u := makes(t, s, plan, bounds); !Right(u) {
			t.Errorf("Make(%v) = %v is not valid", s, u)
		}
		refuses(t, s, plan, make([]int, len(bounds)))
	}
}

// TestMake: in full, of a table with Ceilings and a task that is split.
func TestMake(t *testing.T) {
	s, plan, bounds := mixed()
	u := makes(t, s, plan, bounds)
	want := api.Table{
		System: s,
		Entries: []api.Entry{
			{Pieces: []api.Piece{{Core: 2, Budget: 60, Deadline: 900, Priority: 3}}, Bound: 900},
			{Pieces: []api.Piece{early(1, 10), early(0, 15), {Core: 2, Budget: 25, Deadline: 469, Priority: 1}}, Bound: 480},
			{Pieces: []api.Piece{{Core: 2, Budget: 70, Deadline: 800, Priority: 2}}, Bound: 1},
			{Pieces: []api.Piece{{Core: 0, Budget: 9, Deadline: 700, Priority: 1}}, Bound: 77},
		},
		Ceilings: [][]int{{0, 0, 0}, {0, 0, 0}, {3, 0, 2}},
	}
	if !alike(u, want) {
		t.Errorf("Make = %v, want %v", u, want)
	}
	s, plan, bounds = sharing()
	u = makes(t, s, plan, bounds)
	want = api.Table{
		System: s,
		Entries: []api.Entry{
			{Pieces: []api.Piece{last(1, 100, 200)}, Bound: 200},
			{Pieces: []api.Piece{early(0, 20), last(1, 30, 978)}, Bound: 129},
		},
		Ceilings: [][]int{{0, 0}, {0, 1}},
	}
	if !alike(u, want) {
		t.Errorf("Make = %v, want %v", u, want)
	}
	for _, p := range ordinary() {
		makes(t, made(t, p).System, bare(made(t, p)), boundsOf(made(t, p)))
	}
}

// TestMakeOfAnyPriorities: those of the plan do not count.
func TestMakeOfAnyPriorities(t *testing.T) {
	for _, p := range ordinary() {
		want := made(t, p)
		for _, n := range []int{-1, 0, 1, 2, 24, 25, least, most} {
			s, plan, bounds := p()
			for _, pieces := range plan {
				for i := range pieces {
					pieces[i].Priority = n
				}
			}
			if u := makes(t, s, plan, bounds); !alike(u, want) {
				t.Errorf("Make with the Priorities %d = %v, want %v", n, u, want)
			}
		}
	}
}

func TestHowManyBounds(t *testing.T) {
	for _, p := range ordinary() {
		s, plan, bounds := p()
		refuses(t, s, plan, nil)
		refuses(t, s, plan, []int{})
		refuses(t, s, plan, bounds[1:])
		refuses(t, s, plan, bounds[:len(bounds)-1])
		refuses(t, s, plan, append(slices.Clone(bounds), 1))
		refuses(t, s, plan, append(slices.Clone(bounds), bounds...))
		refuses(t, s, plan, slices.Repeat([]int{1}, 5000))
	}
	s, plan, bounds := one()
	refuses(t, fixed(1, 0), nil, nil)
	refuses(t, s, nil, bounds)
	refuses(t, s, append(plan, nil), append(bounds, 1))
}

// TestBounds: from 1 to the Deadline, of each task, whatever Check says of them.
func TestBounds(t *testing.T) {
	for _, p := range ordinary() {
		_, _, bounds := p()
		for i := range bounds {
			deadline := made(t, p).System.Tasks[i].Deadline
			for _, n := range []int{1, 2, deadline / 2, deadline - 1, deadline, 0, -1, -deadline, deadline + 1, 2 * deadline, 1<<32 + 1, -1<<32 + 1, greatest, most, least} {
				s, plan, bounds := p()
				u := made(t, p)
				bounds[i], u.Entries[i].Bound = n, n
				judges(t, u, n >= 1 && n <= deadline)
				if n >= 1 && n <= deadline {
					makes(t, s, plan, bounds)
				} else {
					refuses(t, s, plan, bounds)
				}
			}
		}
	}
}

// TestBoundsOfAShortDeadline: the Deadline is what counts, not the Period.
func TestBoundsOfAShortDeadline(t *testing.T) {
	s, plan, bounds := sharing()
	for _, n := range []int{201, 250, 300} {
		bounds[0] = n
		refuses(t, s, plan, bounds)
	}
	bounds[0] = 200
	makes(t, s, plan, bounds)
}

// TestTasksThatAreNotPlaced: and those that are open, though their plan is valid.
func TestTasksThatAreNotPlaced(t *testing.T) {
	for _, pieces := range [][]api.Piece{nil, {}, make([]api.Piece, 0, 3), {early(0, 1)}, {early(0, 4)}, {early(0, 5)}, {early(0, 1), early(1, 2)}, {early(1, 4), early(0, 1)}} {
		s, plan, bounds := halves()
		plan[2] = pieces
		if !analysis.Right(s, plan) {
			t.Fatalf("the plan %v is not valid", plan)
		}
		refuses(t, s, plan, bounds)
		judges(t, together(s, plan, bounds), false)
		s, plan, _ = one()
		s.Cores, s.Tasks[0].Wcet = 2, 6
		plan[0] = pieces
		for _, n := range []int{0, 1, 10} {
			refuses(t, s, plan, []int{n})
			judges(t, together(s, plan, []int{n}), false)
		}
	}
}

// TestPlansThatMissDeadlines: a table tells nothing of that.
func TestPlansThatMissDeadlines(t *testing.T) {
	s := fixed(1, 0, task(10, 10), task(10, 10), task(10, 10))
	plan := [][]api.Piece{{last(0, 10, 10)}, {last(0, 10, 10)}, {last(0, 10, 10)}}
	if _, _, err := analysis.Check(s, plan); err != api.ErrMiss {
		t.Fatal(err)
	}
	makes(t, s, plan, []int{10, 10, 10})
	makes(t, s, plan, []int{1, 1, 1})
}

// TestPlansThatAreNotValid: whichever condition of chapter 17 is violated.
func TestPlansThatAreNotValid(t *testing.T) {
	for name, spoil := range map[string]func(plan [][]api.Piece){
		"a core below":            func(plan [][]api.Piece) { plan[3][0].Core = -1 },
		"a core above":            func(plan [][]api.Piece) { plan[3][0].Core = 3 },
		"the most core":           func(plan [][]api.Piece) { plan[3][0].Core = most },
		"twice on a core":         func(plan [][]api.Piece) { plan[1][1].Core = 1 },
		"no Budget":               func(plan [][]api.Piece) { plan[1][0] = early(1, 0) },
		"a Budget below":          func(plan [][]api.Piece) { plan[1][0] = early(1, least) },
		"too small a Budget":      func(plan [][]api.Piece) { plan[3][0].Budget = 8 },
		"too great a Budget":      func(plan [][]api.Piece) { plan[3][0].Budget = 10 },
		"a Tight Deadline":        func(plan [][]api.Piece) { plan[1][0].Deadline++ },
		"an early Deadline":       func(plan [][]api.Piece) { plan[1][2].Deadline-- },
		"a late Deadline":         func(plan [][]api.Piece) { plan[3][0].Deadline++ },
		"Tight at the end":        func(plan [][]api.Piece) { plan[3][0] = early(0, 9) },
		"not Tight ahead":         func(plan [][]api.Piece) { plan[1][0].Tight = false },
		"Tight with sections":     func(plan [][]api.Piece) { plan[2] = []api.Piece{early(1, 60), last(2, 10, 737)} },
		"Tight twice":             func(plan [][]api.Piece) { plan[3] = []api.Piece{early(1, 8), last(2, 1, 689)} },
		"sections beside a Tight": func(plan [][]api.Piece) { plan[2][0].Core = 1 },
		"nine pieces":             func(plan [][]api.Piece) { plan[3] = slices.Repeat(plan[3], 9) },
	} {
		s, plan, bounds := mixed()
		u := made(t, mixed)
		spoil(plan)
		if analysis.Right(s, plan) {
			t.Errorf("%s: the plan is valid", name)
		}
		refuses(t, s, plan, bounds)
		for i := range plan {
			u.Entries[i].Pieces = plan[i]
		}
		judges(t, u, false)
	}
}

// TestSystemsThatAreNotValid: whichever number it is.
func TestSystemsThatAreNotValid(t *testing.T) {
	for _, p := range ordinary() {
		s, _, _ := p()
		for i := range systemPlaces(&s) {
			for _, n := range []int{-1, least, most, greatest, api.MaxTime + 1} {
				s, plan, bounds := p()
				u := made(t, p)
				*systemPlaces(&s)[i], *systemPlaces(&u.System)[i] = n, n
				refuses(t, s, plan, bounds)
				judges(t, u, false)
			}
		}
	}
	for _, n := range []int{25, 1000} {
		s := fixed(8, 0, slices.Repeat([]api.Task{task(100, 1)}, n)...)
		plan := slices.Repeat([][]api.Piece{{last(0, 1, 100)}}, n)
		refuses(t, s, plan, slices.Repeat([]int{1}, n))
	}
	s, plan, bounds := one()
	s.Resources, s.Tasks[0].Sections = 1, []api.Section{{At: 0, Len: 1}, {At: 1, Len: 0}}
	refuses(t, s, plan, bounds)
}

// TestEveryNumberOfATable: with each number another one, Right and Encode say what the chapter says.
func TestEveryNumberOfATable(t *testing.T) {
	valid, wrong := 0, 0
	for _, p := range ordinary() {
		u := made(t, p)
		judges(t, u, true)
		for i, place := range tablePlaces(&u) {
			for _, n := range []int{*place - 1, *place + 1, *place + 2, -*place, 0, 1, 2, 3, 1<<32 + *place, greatest, most, least} {
				v := plain(u)
				*tablePlaces(&v)[i] = n
				want := judged(v)
				judges(t, v, want)
				if want {
					valid++
				} else {
					wrong++
				}
			}
		}
	}
	if valid < 100 || wrong < 1000 {
		t.Errorf("%d valid, %d not", valid, wrong)
	}
}

// TestPrioritiesOfATable: they are those of Rank, of Tight pieces and under Edf, too.
func TestPrioritiesOfATable(t *testing.T) {
	for _, p := range ordinary() {
		u := made(t, p)
		for task, e := range u.Entries {
			for i, piece := range e.Pieces {
				for _, n := range []int{piece.Priority - 1, piece.Priority + 1, piece.Priority + 1<<32, -1, most, least} {
					v := plain(u)
					v.Entries[task].Pieces[i].Priority = n
					judges(t, v, false)
				}
			}
		}
	}
	u := made(t, halves)
	u.Entries[1].Pieces[0].Priority, u.Entries[2].Pieces[1].Priority = 1, 2
	judges(t, u, false)
}

// TestTightOfATable: with each of its pieces Tight or not, the other way about.
func TestTightOfATable(t *testing.T) {
	for _, p := range ordinary() {
		u := made(t, p)
		for task, e := range u.Entries {
			for i := range e.Pieces {
				v := plain(u)
				v.Entries[task].Pieces[i].Tight = !v.Entries[task].Pieces[i].Tight
				judges(t, v, false)
			}
		}
	}
}

// TestCeilingsOfATable: as many rows as cores, as many numbers as resources, and no others.
func TestCeilingsOfATable(t *testing.T) {
	for _, p := range ordinary() {
		for name, spoil := range map[string]func(u *api.Table){
			"none":          func(u *api.Table) { u.Ceilings = nil },
			"no rows":       func(u *api.Table) { u.Ceilings = [][]int{} },
			"a row less":    func(u *api.Table) { u.Ceilings = u.Ceilings[1:] },
			"the last less": func(u *api.Table) { u.Ceilings = u.Ceilings[:len(u.Ceilings)-1] },
			"a row more":    func(u *api.Table) { u.Ceilings = append(u.Ceilings, make([]int, u.System.Resources)) },
			"an empty row":  func(u *api.Table) { u.Ceilings = append(u.Ceilings, nil) },
			"a number more": func(u *api.Table) { u.Ceilings[0] = append(u.Ceilings[0], 0) },
			"at the end":    func(u *api.Table) { row := &u.Ceilings[len(u.Ceilings)-1]; *row = append(*row, 0) },
		} {
			u := plain(made(t, p))
			spoil(&u)
			if judged(u) {
				t.Errorf("%s: the table is valid", name)
			}
			judges(t, u, false)
		}
	}
	for _, p := range []parts{sharing, mixed, large} {
		u := made(t, p)
		for core, row := range u.Ceilings {
			for _, l := range [][]int{nil, row[1:], row[:len(row)-1], append([]int{0}, row...), slices.Repeat([]int{9}, len(row))} {
				v := plain(u)
				v.Ceilings[core] = l
				judges(t, v, false)
			}
		}
	}
	u := made(t, mixed)
	u.Ceilings[0], u.Ceilings[2] = u.Ceilings[2], u.Ceilings[0]
	judges(t, u, false)
}

// TestEmptyLists: nil or empty, they are the same.
func TestEmptyLists(t *testing.T) {
	u := made(t, one)
	for _, row := range [][]int{nil, {}, make([]int, 0, 4)} {
		for _, sections := range [][]api.Section{nil, {}, make([]api.Section, 0, 4)} {
			v := plain(u)
			v.Ceilings[0] = row
			v.System.Tasks[0].Sections = sections
			judges(t, v, true)
			_, plan, bounds := one()
			makes(t, v.System, plan, bounds)
		}
	}
}

// TestEntriesOfATable: as many as tasks, in their order.
func TestEntriesOfATable(t *testing.T) {
	for _, p := range ordinary() {
		u := made(t, p)
		l := u.Entries
		for _, entries := range [][]api.Entry{nil, {}, l[1:], l[:len(l)-1], append(slices.Clone(l), l[0]), append(slices.Clone(l), api.Entry{}), slices.Repeat(l, 100)} {
			v := plain(u)
			v.Entries = entries
			judges(t, v, false)
		}
		v := plain(u)
		v.System.Tasks = append(v.System.Tasks, v.System.Tasks[0])
		judges(t, v, false)
		v.System.Tasks = nil
		judges(t, v, false)
		v.Entries = nil
		judges(t, v, false)
	}
	u := made(t, mixed)
	u.Entries[0], u.Entries[2] = u.Entries[2], u.Entries[0]
	judges(t, u, false)
	judges(t, api.Table{}, false)
	judges(t, api.Table{Entries: make([]api.Entry, 1), System: api.System{Tasks: make([]api.Task, 1)}}, false)
}

// TestArgumentsStay: no call changes what it is given, its spare capacity included.
func TestArgumentsStay(t *testing.T) {
	for _, p := range ordinary() {
		s, plan, bounds := p()
		u := made(t, p)
		want := plain(u)
		for i := range plan {
			plan[i] = append(plan[i], last(77, 7, 7))[:len(plan[i])]
			plan[i][0].Priority = 99
		}
		before := bare(api.Table{Entries: entriesOf(plan)})
		makes(t, s, plan, bounds)
		refuses(t, s, plan, append(slices.Clone(bounds), 3))
		refuses(t, s, plan, slices.Repeat([]int{0}, len(bounds)))
		judges(t, u, true)
		if after := bare(api.Table{Entries: entriesOf(plan)}); !alike(api.Table{Entries: entriesOf(before)}, api.Table{Entries: entriesOf(after)}) || plan[0][0].Priority != 99 {
			t.Errorf("the plan is %v, and was %v", after, before)
		}
		for i := range plan {
			if spare := plan[i][:len(plan[i])+1]; spare[len(spare)-1] != last(77, 7, 7) {
				t.Errorf("behind the list of task %d is %v", i, spare)
			}
		}
		if !alike(u, want) || !alike(api.Table{System: s}, api.Table{System: want.System}) || !slices.Equal(bounds, boundsOf(want)) {
			t.Errorf("the arguments are %v, %v, %v, and were %v", u, s, bounds, want)
		}
	}
}

func entriesOf(plan [][]api.Piece) []api.Entry {
	var l []api.Entry
	for _, pieces := range plan {
		l = append(l, api.Entry{Pieces: pieces})
	}
	return l
}

// TestResultsAreNewMemory: of the arguments, of another result, and of one list of a result and all others, their spare capacity included.
func TestResultsAreNewMemory(t *testing.T) {
	for _, p := range ordinary() {
		s, plan, bounds := p()
		want := plain(made(t, p))
		u, other := made(t, p), made(t, p)
		apart(t, u, other, want)
		u, _ = Make(s, plan, bounds)
		spoilAll(u)
		if again := makes(t, s, plan, bounds); !alike(again, want) {
			t.Errorf("the result shares memory with the arguments: %v, want %v", again, want)
		}
		u, _ = Make(s, plan, bounds)
		spoilSystem(s)
		for i := range plan {
			spoil(plan[i], last(99, 99, 99))
		}
		spoil(bounds, 99)
		if !alike(u, want) {
			t.Errorf("the result shares memory with the arguments: %v, want %v", u, want)
		}
		b, _ := Encode(want)
		u, _ = Decode(b)
		other, _ = Decode(b)
		apart(t, u, other, want)
	}
}

// apart holds that no list of u shares memory with another one of u or of other, which are both as want.
func apart(t *testing.T, u, other, want api.Table) {
	t.Helper()
	want = plain(want)
	for task := range u.Entries {
		spoil(u.Entries[task].Pieces, last(99, 99, 99))
		want.Entries[task].Pieces = u.Entries[task].Pieces
		spoil(u.System.Tasks[task].Sections, api.Section{At: 99, Res: 99, Len: 99})
		want.System.Tasks[task].Sections = u.System.Tasks[task].Sections
		if !alike(u, want) {
			t.Fatalf("the lists of task %d share memory: %v, want %v", task, u, want)
		}
	}
	for core := range u.Ceilings {
		spoil(u.Ceilings[core], 99)
		want.Ceilings[core] = u.Ceilings[core]
		if !alike(u, want) {
			t.Fatalf("the ceilings of core %d share memory: %v, want %v", core, u, want)
		}
	}
	spoilAll(u)
	if !judged(other) || !Right(other) {
		t.Fatalf("two results share memory: %v", other)
	}
}

// spoil overwrites a list up to its capacity.
func spoil[T any](l []T, with T) {
	l = l[:cap(l)]
	for i := range l {
		l[i] = with
	}
}

func spoilSystem(s api.System) {
	for _, t := range s.Tasks {
		spoil(t.Sections, api.Section{At: 99, Res: 99, Len: 99})
	}
	spoil(s.Tasks, api.Task{Period: 99})
}

// spoilAll overwrites all lists of a table up to their capacity.
func spoilAll(t api.Table) {
	spoilSystem(t.System)
	for _, e := range t.Entries {
		spoil(e.Pieces, last(99, 99, 99))
	}
	for _, row := range t.Ceilings {
		spoil(row, 99)
	}
	spoil(t.Entries, api.Entry{Bound: 99})
	spoil(t.Ceilings, []int{99})
}

// P19.2

// TestBytesOfTables: with checksums that were reckoned apart.
func TestBytesOfTables(t *testing.T) {
	for _, c := range []struct {
		b string
		p parts
	}{
		{"\x02\x01\x01\x01\x01\x00\x00\x00\x01\x00\x01\x0a\x0a\x03\x00\x01\x00\x03\x0a\x01\x00\x03\x70\x88", one},
		{"\x02\x01\x02\x01\x01\x00\x00\x00\x01\x00\x03\x0a\x0a\x06\x00\x0a\x0a\x06\x00\x0a\x0a\x06\x00\x01\x00\x06\x0a\x01\x00\x0a\x01\x01\x06\x0a\x02\x00\x08\x02\x00\x04\x04\x00\x01\x01\x02\x06\x01\x00\x06\x6d\x47", halves},
		{"\x02\x01\x02\x02\x01\x01\x02\x03\x03\x02\x02\xac\x02\xc8\x01\x64\x01\x07\x01\x09\xe8\x07\xe8\x07\x32\x00\x01\x01\x64\xc8\x01\x00\x00\xc8\x01\x02\x00\x14\x14\x00\x01\x01\x1e\xd2\x07\x00\x00\x81\x01\x11\x68", sharing},
	} {
		want := made(t, c.p)
		if !judged(want) {
			t.Errorf("%v is not valid", want)
		}
		if b, err := Encode(want); b != c.b || err != api.OK {
			t.Errorf("Encode(%v) = % x, %d, want % x", want, b, err, c.b)
		}
		if u, err := Decode(c.b); !alike(u, want) || err != api.OK {
			t.Errorf("Decode(% x) = %v, %d, want %v", c.b, u, err, want)
		}
	}
}

// TestNumbersInTheirOrder: of a table with sections, Priorities and a task that is split twice.
func TestNumbersInTheirOrder(t *testing.T) {
	l := []int{
		2,
		1, 3, 1, 2, 1, 2, 3, 4, 3, 4,
		900, 900, 60, 2, 2, 0, 3, 5, 2, 4,
		500, 500, 50, 0,
		800, 800, 70, 1, 0, 2, 1,
		700, 700, 9, 0,
		1, 2, 60, 900, 3, 0, 900,
		3, 1, 10, 10, 0, 1, 0, 15, 15, 0, 1, 2, 25, 469, 1, 0, 480,
		1, 2, 70, 800, 2, 0, 1,
		1, 0, 9, 700, 1, 0, 77,
	}
	decodes(t, made(t, mixed), l)
	if b, err := Encode(made(t, mixed)); b != sealed(t, l...) || err != api.OK {
		t.Errorf("Encode = % x, %d", b, err)
	}
}

// TestTheLargestTable: it has room in what pack writes.
func TestTheLargestTable(t *testing.T) {
	u := made(t, large)
	l := listed(u)
	if len(l) != 1+10+4+23*(4+4*3)+(1+8*5+1)+23*(1+5+1) {
		t.Errorf("the largest table has %d numbers", len(l))
	}
	decodes(t, u, l)
}

// TestErrorsOfOpen: they go before all others.
func TestErrorsOfOpen(t *testing.T) {
	for _, b := range []string{"", "\x02", "\xff"} {
		rejects(t, b, api.ErrShort)
	}
	long := strings.Repeat("\x80", 100001)
	rejects(t, long+"\x00\x00", api.ErrLong)
	rejects(t, long[:100000]+"\x00\x00", api.ErrSum)
	for _, p := range ordinary() {
		b, _ := Encode(made(t, p))
		rejects(t, b[1:], api.ErrSum)
		rejects(t, b[:len(b)-1], api.ErrSum)
		rejects(t, b+"\x01", api.ErrSum)
		for i := range min(8*len(b), 1000) {
			broken := []byte(b)
			broken[i/8] ^= 1 << (i % 8)
			rejects(t, string(broken), api.ErrSum)
		}
	}
	rejects(t, "\x80\x00\x00", api.ErrSum)
}

// TestErrorsOfRead: they go before that of a wrong form.
func TestErrorsOfRead(t *testing.T) {
	b, _ := Encode(made(t, halves))
	for _, ahead := range []string{"", "\x01", "\x02\x01", b[:len(b)-2], "\xff\x7f"} {
		rejects(t, sealedBytes(t, ahead+"\x80"), api.ErrShort)
		rejects(t, sealedBytes(t, ahead+strings.Repeat("\xff", 10)), api.ErrShort)
		rejects(t, sealedBytes(t, ahead+"\x80\x00"), api.ErrForm)
		rejects(t, sealedBytes(t, ahead+"\x80\x00\x80"), api.ErrForm)
		rejects(t, sealedBytes(t, ahead+"\x81\x80\x80\x80\x80\x80\x80\x80\x40"), api.ErrLong)
		rejects(t, sealedBytes(t, ahead+strings.Repeat("\xff", 9)+"\x01"), api.ErrLong)
		rejects(t, sealedBytes(t, ahead+strings.Repeat("\x00", 2001)), api.ErrLong)
		rejects(t, sealedBytes(t, ahead+strings.Repeat("\x00", 1900)), api.ErrForm)
		rejects(t, sealedBytes(t, ahead+"\x80\x80\x80\x80\x80\x80\x80\x80\x40"), api.ErrForm)
	}
	rejects(t, sealedBytes(t, strings.Repeat("\x02", 2000)), api.ErrForm)
	rejects(t, sealedBytes(t, strings.Repeat("\x02", 2001)), api.ErrLong)
	rejects(t, sealedBytes(t, strings.Repeat("\x02", 99999)+"\x80"), api.ErrLong)
}

// TestVersions: 2, and 1 behind it.
func TestVersions(t *testing.T) {
	for _, p := range ordinary() {
		l := listed(made(t, p))
		for i := range 2 {
			for _, n := range []int{0, 1, 2, 3, 4, 127, 128, 130, 258, 1<<32 + l[i], greatest} {
				other := slices.Clone(l)
				other[i] = n
				if ok := spelt(t, other); ok != (n == l[i]) {
					t.Errorf("version %d at %d: %v", n, i, ok)
				}
			}
		}
		rejects(t, sealed(t, l[1:]...), api.ErrForm)
		rejects(t, sealed(t, append([]int{2}, l...)...), api.ErrForm)
	}
}

// TestNumbersThatEnd: at every place; and such as are left over.
func TestNumbersThatEnd(t *testing.T) {
	for _, p := range ordinary() {
		l := listed(made(t, p))
		for i := range l {
			rejects(t, sealed(t, l[:i]...), api.ErrForm)
		}
		for _, n := range []int{0, 1, 2, 128, greatest} {
			rejects(t, sealed(t, append(slices.Clone(l), n)...), api.ErrForm)
		}
		for _, more := range [][]int{{0, 0}, l, slices.Repeat([]int{0}, 500)} {
			rejects(t, sealed(t, append(slices.Clone(l), more...)...), api.ErrForm)
		}
	}
}

// TestTightIsZeroOrOne: no other number stands for a boolean.
func TestTightIsZeroOrOne(t *testing.T) {
	for _, n := range []int{2, 3, 127, 128, 255, 256, 257, 1 << 32, 1<<32 + 1, greatest - 1, greatest} {
		for _, at := range []int{-9, -3} { // of the Tight piece, and of the last one
			l := listed(made(t, halves))
			l[len(l)+at+1] = n
			rejects(t, sealed(t, l...), api.ErrForm)
		}
	}
	l := listed(made(t, halves))
	if l[len(l)-7] != 1 || l[len(l)-2] != 0 {
		t.Errorf("the numbers of Tight are not at their places: %v", l)
	}
}

// TestHowManyAreTold: of tasks, sections and pieces, more than there are, or than there may be; as of all forms, the error is ErrForm.
func TestHowManyAreTold(t *testing.T) {
	system := []int{2, 1, 1, 1, 1, 0, 0, 0, 1, 1}
	for _, n := range []int{0, 2, 3, 23, 24, 25, 26, 1000, 1 << 31, 1 << 32, 1<<32 + 1, 1 << 60, greatest/3 + 1, greatest - 1, greatest} {
		rejects(t, sealed(t, append(slices.Clone(system), n)...), api.ErrForm)
		spelt(t, append(slices.Clone(system), n, 10, 10, 3, 0, 1, 0, 3, 10, 1, 0, 3))
		spelt(t, append(slices.Clone(system), 1, 10, 10, 3, n, 1, 0, 3, 10, 1, 0, 3))
		rejects(t, sealed(t, append(slices.Clone(system), 1, 10, 10, 3, 0, n, 0, 3, 10, 1, 0, 3)...), api.ErrForm)
	}
	for _, n := range []int{24, 25, 26, 40} {
		l := append(slices.Clone(system), n)
		for range n {
			l = append(l, 100, 100, 1, 0)
		}
		for i := range n {
			l = append(l, 1, 0, 1, 100, i+1, 0, 9)
		}
		if ok := spelt(t, l); ok != (n == 24) {
			t.Errorf("%d tasks: %v", n, ok)
		}
	}
	for _, n := range []int{4, 5, 6, 100} {
		l := append(slices.Clone(system), 1, 1000, 1000, 500, n)
		for i := range n {
			l = append(l, i, 0, 1)
		}
		if ok := spelt(t, append(l, 1, 0, 500, 1000, 1, 0, 9)); ok != (n == 4) {
			t.Errorf("%d sections: %v", n, ok)
		}
	}
}

// TestHowManyPieces: eight, on eight cores, and no more.
func TestHowManyPieces(t *testing.T) {
	for n := 1; n <= 100; n++ {
		l := []int{2, 1, 8, 1, 1, 0, 0, 0, 1, 0, 1, 1000, 1000, 500, 0, n}
		for i := range n - 1 {
			l = append(l, i%8, 1, 1, 0, 1)
		}
		l = append(l, (n-1)%8, 501-n, 1001-n, 1, 0, 9)
		if ok := spelt(t, l); ok != (n <= 8) {
			t.Errorf("%d pieces: %v", n, ok)
		}
	}
}

// TestDecodeOfTablesThatAreNotValid: their numbers are in order, but for what they mean.
func TestDecodeOfTablesThatAreNotValid(t *testing.T) {
	for name, change := range map[string]func(u *api.Table){
		"a Bound of 0":            func(u *api.Table) { u.Entries[0].Bound = 0 },
		"a Bound too great":       func(u *api.Table) { u.Entries[1].Bound = 501 },
		"a Priority":              func(u *api.Table) { u.Entries[0].Pieces[0].Priority = 2 },
		"no Priority":             func(u *api.Table) { u.Entries[0].Pieces[0].Priority = 0 },
		"a Priority of Tight":     func(u *api.Table) { u.Entries[1].Pieces[0].Priority = 1 },
		"no pieces":               func(u *api.Table) { u.Entries[3].Pieces = nil },
		"no last piece":           func(u *api.Table) { u.Entries[1].Pieces = u.Entries[1].Pieces[:2] },
		"another core":            func(u *api.Table) { u.Entries[0].Pieces[0].Core = 1 },
		"no such core":            func(u *api.Table) { u.Entries[3].Pieces[0].Core = 3 },
		"another Budget":          func(u *api.Table) { u.Entries[3].Pieces[0].Budget = 8 },
		"another Deadline":        func(u *api.Table) { u.Entries[3].Pieces[0].Deadline = 699 },
		"Tight":                   func(u *api.Table) { u.Entries[3].Pieces[0].Tight = true },
		"not Tight":               func(u *api.Table) { u.Entries[1].Pieces[0].Tight = false },
		"no cores":                func(u *api.Table) { u.System.Cores = 0 },
		"another policy":          func(u *api.Table) { u.System.Policy = 3 },
		"another protocol":        func(u *api.Table) { u.System.Protocol = 0 },
		"a cost":                  func(u *api.Table) { u.System.Finish = 51 },
		"another latency":         func(u *api.Table) { u.System.Latency = 3 },
		"resources":               func(u *api.Table) { u.System.Resources = 2 },
		"an entry less":           func(u *api.Table) { u.Entries = u.Entries[:3] },
		"an entry more":           func(u *api.Table) { u.Entries = append(u.Entries, u.Entries[3]) },
		"a task less":             func(u *api.Table) { u.System.Tasks = u.System.Tasks[:3] },
		"no tasks and no entries": func(u *api.Table) { u.System.Tasks, u.Entries = nil, nil },
	} {
		u := plain(made(t, mixed))
		change(&u)
		if spelt(t, listed(u)) {
			t.Errorf("%s: the table is valid", name)
		}
	}
}

// TestEveryNumberExchanged: of the numbers of a table; left out, or there once more.
func TestEveryNumberExchanged(t *testing.T) {
	valid := 0
	for _, p := range []parts{one, halves, sharing, mixed} {
		l := listed(made(t, p))
		for i := range l {
			for _, n := range []int{0, 1, 2, 3, 4, 5, 6, 8, 9, 10, l[i] + 1, max(l[i]-1, 0), 24, 25, greatest - 1, greatest} {
				other := slices.Clone(l)
				other[i] = n
				if spelt(t, other) && n != l[i] {
					valid++
				}
				spelt(t, slices.Insert(slices.Clone(l), i, n))
			}
			spelt(t, slices.Delete(slices.Clone(l), i, i+1))
			for j := range i {
				other := slices.Clone(l)
				other[i], other[j] = other[j], other[i]
				spelt(t, other)
			}
		}
	}
	if valid < 50 {
		t.Errorf("%d others are valid", valid)
	}
}

// TestEveryListOfAFewNumbers: behind what is valid ahead of them.
func TestEveryListOfAFewNumbers(t *testing.T) {
	var grow func(l []int, size int, alphabet []int) int
	grow = func(l []int, size int, alphabet []int) int {
		valid := 0
		if spelt(t, l) {
			valid++
		}
		if size > 0 {
			for _, n := range alphabet {
				valid += grow(append(slices.Clone(l), n), size-1, alphabet)
			}
		}
		return valid
	}
	head := []int{2, 1, 1, 1, 1, 0, 0, 0, 1, 0, 1, 2, 2, 1, 0}
	if n := grow(head, 7, []int{0, 1, 2}); n != 2 {
		t.Errorf("%d valid tables, want those with the bounds 1 and 2", n)
	}
	if n := grow([]int{2, 1, 1}, 4, []int{0, 1, 2, 5}); n != 0 {
		t.Errorf("%d valid tables", n)
	}
	if n := grow(nil, 4, []int{0, 1, 2, 3, greatest}); n != 0 {
		t.Errorf("%d valid tables", n)
	}
}

// TestStringsInAFixedOrder: no bytes break Decode, with a right checksum or without.
func TestStringsInAFixedOrder(t *testing.T) {
	number := source()
	for range 20000 {
		b := make([]byte, number(60))
		for i := range b {
			b[i] = byte(number(256) >> number(8))
		}
		for _, s := range []string{string(b), sealedBytes(t, string(b)), sealedBytes(t, "\x02\x01\x02\x01\x01\x00\x00\x00\x01\x01"+string(b))} {
			u, err := Decode(s)
			if err != api.OK && !nothing(u) {
				t.Fatalf("Decode(% x) = %v, %d", s, u, err)
			}
			if again, _ := Encode(u); err == api.OK && again != s {
				t.Fatalf("Decode(% x) = %v, but Encode of it % x", s, u, again)
			}
		}
	}
}

// P19.3

// TestDrawnTables: there and back; and with some of their numbers exchanged.
func TestDrawnTables(t *testing.T) {
	number := source()
	split, shared, still := 0, 0, 0
	for range 4000 {
		s, plan, bounds := drawn(number)
		u := makes(t, s, plan, bounds)
		l := listed(u)
		decodes(t, u, l)
		for task := range plan {
			split += min(len(plan[task])-1, 1)
			shared += min(len(s.Tasks[task].Sections), 1)
		}
		for range 1 + number(2) {
			i := number(len(l))
			l[i] = []int{number(30), l[i] + 1, max(l[i]-1, 0), l[number(len(l))]}[number(4)]
		}
		if spelt(t, l) {
			still++
		}
		spelt(t, l[:number(len(l)+1)])
	}
	if split < 500 || shared < 500 || still < 300 {
		t.Errorf("%d tasks that are split, %d that share, %d tables that are still valid", split, shared, still)
	}
}

// TestTablesOfPlace: what is admitted comes through, with the bounds of Check.
func TestTablesOfPlace(t *testing.T) {
	number := source()
	placed := 0
	for range 300 {
		s, _, _ := drawn(number)
		s.Release, s.Switch, s.Finish = 0, 0, number(2)
		plan, bounds, err := place.Place(s)
		if err != api.OK {
			continue
		}
		placed++
		u := makes(t, s, plan, bounds)
		decodes(t, u, listed(u))
	}
	if placed < 50 {
		t.Errorf("%d systems were placed", placed)
	}
}

// TestOtherTablesHaveOtherBytes: of a number exchanged that leaves the table valid.
func TestOtherTablesHaveOtherBytes(t *testing.T) {
	seen := map[string]api.Table{}
	for _, p := range []parts{one, halves, sharing, mixed} {
		u := made(t, p)
		for i := range tablePlaces(&u) {
			for n := range 30 {
				v := plain(u)
				*tablePlaces(&v)[i] = n
				b, err := Encode(v)
				if err != api.OK {
					continue
				}
				if w, ok := seen[b]; ok && !alike(v, w) {
					t.Fatalf("%v and %v have the same bytes", v, w)
				}
				seen[b] = v
			}
		}
	}
	if len(seen) < 50 {
		t.Errorf("%d tables", len(seen))
	}
}

// Ways

// sources returns the files of the package that are no tests.
func sources(t *testing.T) map[string]*ast.File {
	t.Helper()
	names, err := filepath.Glob("*.go")
	if err != nil || len(names) == 0 {
		t.Fatal(names, err)
	}
	files := map[string]*ast.File{}
	for _, name := range names {
		if strings.HasSuffix(name, "_test.go") {
			continue
		}
		file, err := parser.ParseFile(token.NewFileSet(), name, nil, 0)
		if err != nil {
			t.Fatal(err)
		}
		files[name] = file
	}
	return files
}

// TestImports: of the project's packages, those that the chapter names.
func TestImports(t *testing.T) {
	may := []string{"slices", "tourbillon/analysis", "tourbillon/api", "tourbillon/pack", "tourbillon/taskset"}
	for name, file := range sources(t) {
		for _, i := range file.Imports {
			if !slices.Contains(may, strings.Trim(i.Path.Value, `"`)) {
				t.Errorf("%s imports %s", name, i.Path.Value)
			}
		}
	}
}

// recovers reports whether n defers a function literal that calls recover.
func recovers(n ast.Node) bool {
	d, ok := n.(*ast.DeferStmt)
	if !ok {
		return false
	}
	f, ok := d.Call.Fun.(*ast.FuncLit)
	if !ok {
		return false
	}
	found := false
	ast.Inspect(f, func(n ast.Node) bool {
		if c, ok := n.(*ast.CallExpr); ok {
			if id, ok := c.Fun.(*ast.Ident); ok && id.Name == "recover" {
				found = true
			}
		}
		return true
	})
	return found
}

// booleans reports whether n is a literal of a map from booleans to numbers.
func booleans(n ast.Node) bool {
	c, ok := n.(*ast.CompositeLit)
	if !ok {
		return false
	}
	m, ok := c.Type.(*ast.MapType)
	if !ok {
		return false
	}
	key, ok := m.Key.(*ast.Ident)
	return ok && key.Name == "bool" && len(c.Elts) == 2
}

// TestWays: booleans are converted by a table that is a literal, and the reader stops by a defer that recovers.
func TestWays(t *testing.T) {
	defers, tables := 0, 0
	for _, file := range sources(t) {
		ast.Inspect(file, func(n ast.Node) bool {
			if recovers(n) {
				defers++
			}
			if booleans(n) {
				tables++
			}
			return true
		})
	}
	if defers != 1 || tables != 1 {
		t.Errorf("%d defers that recover, %d tables of booleans", defers, tables)
	}
	if digit(false) != 0 || digit(true) != 1 {
		t.Errorf("false is %d, true is %d", digit(false), digit(true))
	}
}

// TestTheReaderStops: at the end by a panic, which goes no further than read.
func TestTheReaderStops(t *testing.T) {
	stops := func(r *reader) (stopped bool) {
		defer func() { stopped = recover() != nil }()
		r.next()
		return false
	}
	r := &reader{rest: []int{7, 0}}
	for i, want := range []bool{false, false, true, true} {
		if stops(r) != want {
			t.Errorf("number %d: stopped is %v", i, !want)
		}
	}
	l := listed(made(t, mixed))
	for i := range l {
		if s, entries, err := read(l[:i]); err != api.ErrForm || entries != nil || s.Tasks != nil || s.Cores != 0 {
			t.Errorf("read(%v) = %v, %v, %d", l[:i], s, entries, err)
		}
	}
	if !slices.Equal(l, listed(made(t, mixed))) {
		t.Errorf("the numbers were changed: %v", l)
	}
}

// TestNumbersOfPack: a valid table has no number, and not as many of them, that pack refuses.
func TestNumbersOfPack(t *testing.T) {
	for _, p := range ordinary() {
		if _, err := pack.Write(numbers(made(t, p))); err != api.OK {
			t.Errorf("Write: %d", err)
		}
		if !slices.Equal(numbers(made(t, p)), listed(made(t, p))) {
			t.Errorf("numbers = %v, want %v", numbers(made(t, p)), listed(made(t, p)))
		}
	}
}
