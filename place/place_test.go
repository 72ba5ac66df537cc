package place

import (
	"go/ast"
	"go/parser"
	"go/token"
	"path/filepath"
	"slices"
	"strings"
	"testing"

	"tourbillon/analysis"
	"tourbillon/api"
	"tourbillon/valid"
)

const (
	most    = 1<<63 - 1
	least   = -1 << 63
	maxTime = api.MaxTime
)

// early returns a Tight piece.
func early(core, budget int) api.Piece {
	return api.Piece{Core: core, Budget: budget, Deadline: budget, Tight: true}
}

// last returns a piece that is not Tight.
func last(core, budget, deadline int) api.Piece {
	return api.Piece{Core: core, Budget: budget, Deadline: deadline}
}

// list returns the list of a task.
func list(pieces ...api.Piece) []api.Piece { return pieces }

// whole returns the list of a task that is whole on core.
func whole(core int, t api.Task) []api.Piece { return list(last(core, t.Wcet, t.Deadline)) }

// task returns one whose Deadline is its Period.
func task(period, wcet int, sections ...api.Section) api.Task {
	return api.Task{Period: period, Deadline: period, Wcet: wcet, Sections: sections}
}

// by returns a task with a Deadline.
func by(period, deadline, wcet int) api.Task {
	return api.Task{Period: period, Deadline: deadline, Wcet: wcet}
}

// of returns a section of so many units with a resource; at is where it begins.
func of(at, res, size int) api.Section { return api.Section{At: at, Res: res, Len: size} }

// fixed returns a valid system without costs, under Fixed and Msrp.
func fixed(cores, resources int, tasks ...api.Task) api.System {
	return api.System{Cores: cores, Policy: api.Fixed, Protocol: api.Msrp, Latency: 1, Resources: resources, Tasks: tasks}
}

// edf returns a valid system without costs, under Edf.
func edf(cores, resources int, tasks ...api.Task) api.System {
	s := fixed(cores, resources, tasks...)
	s.Policy = api.Edf
	return s
}

// mrsp returns s under Fixed and Mrsp.
func mrsp(s api.System) api.System {
	s.Policy, s.Protocol = api.Fixed, api.Mrsp
	return s
}

// costing returns s with costs of Release, Switch and Finish.
func costing(s api.System, release, change, finish int) api.System {
	s.Release, s.Switch, s.Finish = release, change, finish
	return s
}

// late returns s with a Latency.
func late(s api.System, latency int) api.System {
	s.Latency = latency
	return s
}

// orders holds what Order returns against what is wanted.
func orders(t *testing.T, s api.System, want ...int) {
	t.Helper()
	if got, err := Order(s); !slices.Equal(got, want) || err != api.OK {
		t.Fatalf("Order(%v) = %v, %d, want %v", s, got, err, want)
	}
}

// plans holds the plan that Place returns, apart from Priorities, against what is wanted, task by task; all else is held against the rival.
func plans(t *testing.T, s api.System, want ...[]api.Piece) {
	t.Helper()
	got := spelt(t, s)
	bare := copied(got.plan)
	for task := range bare {
		for i := range bare[task] {
			bare[task][i].Priority = 0
		}
	}
	if !slices.EqualFunc(bare, want, slices.Equal[[]api.Piece]) || got.err != api.OK {
		t.Fatalf("Place(%v) = %v, want %v", s, got, want)
	}
}

// plansWhole is plans, of tasks that are all whole, each on the core that is given for it.
func plansWhole(t *testing.T, s api.System, where ...int) {
	t.Helper()
	var want [][]api.Piece
	for task, core := range where {
		want = append(want, whole(core, s.Tasks[task]))
	}
	plans(t, s, want...)
}

// bounds holds the bounds that Place returns against what is wanted.
func bounds(t *testing.T, s api.System, want ...int) {
	t.Helper()
	if _, got, err := Place(s); !slices.Equal(got, want) || err != api.OK {
		t.Fatalf("Place(%v) has the bounds %v, %d, want %v", s, got, err, want)
	}
}

// fails holds that Place returns an error, and nothing else.
func fails(t *testing.T, s api.System, err api.Errno) {
	t.Helper()
	if got := placed(s); len(got.plan) != 0 || len(got.bounds) != 0 || got.err != err {
		t.Fatalf("Place(%v) = %v, want %d", s, got, err)
	}
	spelt(t, s)
}

// refused holds that all calls refuse a system.
func refused(t *testing.T, s api.System) {
	t.Helper()
	if l, err := Order(s); len(l) != 0 || err != api.ErrArg {
		t.Fatalf("Order(%v) = %v, %d", s, l, err)
	}
	fails(t, s, api.ErrArg)
}

// P18.1

// TestOrder: by the parts of a core that tasks take, and by their numbers.
func TestOrder(t *testing.T) {
	orders(t, fixed(1, 0, task(10, 2), task(10, 3), task(10, 1)), 1, 0, 2)
	orders(t, fixed(1, 0, task(10, 2), task(4, 2), task(5, 2)), 1, 2, 0)
	orders(t, fixed(1, 0, task(10, 5), task(2, 1), task(6, 3)), 0, 1, 2)
	orders(t, fixed(1, 0, task(6, 3), task(4, 3), task(2, 1), task(8, 6), task(9, 9)), 4, 1, 3, 0, 2)
	orders(t, fixed(1, 0, task(1, 1)), 0)
	orders(t, fixed(1, 0, task(maxTime, 1), task(1, 1), task(maxTime, maxTime)), 1, 2, 0)
}

// TestOrderIsExact: of parts that are as near to each other as they may be, and of equal ones of other terms.
func TestOrderIsExact(t *testing.T) {
	near := []api.Task{task(maxTime, maxTime-1), task(maxTime-1, maxTime-2), task(maxTime-2, maxTime-3)}
	orders(t, fixed(1, 0, near...), 0, 1, 2)
	slices.Reverse(near)
	orders(t, fixed(1, 0, near...), 2, 1, 0)
	orders(t, fixed(1, 0, task(maxTime, 3<<38), task(4, 3), task(maxTime-4, 3<<38-3), task(400, 300)), 0, 1, 2, 3)
	orders(t, fixed(1, 0, task(maxTime, 1), task(maxTime-1, 1), task(maxTime, 2), task(maxTime-1, 2)), 3, 2, 1, 0)
	orders(t, fixed(1, 0, task(maxTime, 1<<39), task(maxTime-1, 1<<39), task(maxTime-1, 1<<39-1), task(2, 1)), 1, 0, 3, 2)
}

// TestOrderLooksAtNothingElse: not at Deadlines, sections, cores, nor at what things cost.
func TestOrderLooksAtNothingElse(t *testing.T) {
	orders(t, fixed(1, 0, by(10, 4, 4), by(10, 10, 5), by(10, 6, 6)), 2, 1, 0)
	orders(t, fixed(1, 0, by(10, 10, 5), by(10, 5, 5), by(10, 7, 5)), 0, 1, 2)
	for _, policy := range []int{api.Fixed, api.Edf} {
		for cores := 1; cores <= 8; cores++ {
			s := late(costing(fixed(cores, 3, task(10, 4, of(0, 2, 4)), task(10, 9), task(10, 5, of(1, 0, 1))), cores, 5*cores, 50), 50)
			s.Policy = policy
			orders(t, s, 1, 2, 0)
		}
	}
}

// TestOrderOfWhatCantBePlaced: it is told nevertheless.
func TestOrderOfWhatCantBePlaced(t *testing.T) {
	s := fixed(1, 0, task(10, 9), task(10, 10), task(10, 9))
	orders(t, s, 1, 0, 2)
	fails(t, s, api.ErrMiss)
}

// TestEveryOrderOfFewTasks: of all triples of small tasks.
func TestEveryOrderOfFewTasks(t *testing.T) {
	var tasks []api.Task
	for period := 1; period <= 6; period++ {
		for wcet := 1; wcet <= period; wcet++ {
			tasks = append(tasks, task(period, wcet))
		}
	}
	for _, a := range tasks {
		for _, b := range tasks {
			for _, c := range tasks {
				s := fixed(1, 0, a, b, c)
				want, _ := (&rival{s: s}).order()
				orders(t, s, want...)
			}
		}
	}
}

// TestOrderOfManyTasks: of parts of which many are equal, or nearly so.
func TestOrderOfManyTasks(t *testing.T) {
	number := source()
	for i := range 2000 {
		s := fixed(8, 0)
		size := 1 << (i % 38)
		for range 1 + number(24) {
			period := (1 + number(4)) * size
			wcet := (1+number(4))*period/4 - number(2)*number(2)
			s.Tasks = append(s.Tasks, task(period, max(1, wcet)))
		}
		want, _ := (&rival{s: s}).order()
		orders(t, s, want...)
	}
	orders(t, fixed(1, 0, slices.Repeat([]api.Task{task(7, 3)}, 24)...), 0, 1, 2, 3, 4, 5, 6, 7, 8, 9, 10, 11, 12, 13, 14, 15, 16, 17, 18, 19, 20, 21, 22, 23)
}

// mixed returns a system of two cores, with sections, costs, and a task that is split.
func mixed() api.System {
	return late(costing(fixed(2, 2,
		task(100, 60, of(2, 0, 3), of(5, 1, 4)),
		task(120, 70),
		task(80, 24),
		task(200, 4, of(0, 1, 4)),
	), 1, 1, 1), 3)
}

// spoils returns changes by which a condition of chapter 8 is violated in mixed.
func spoils() map[string]func(s *api.System) {
	return map[string]func(s *api.System){
		"no cores":            func(s *api.System) { s.Cores = 0 },
		"nine cores":          func(s *api.System) { s.Cores = 9 },
		"most cores":          func(s *api.System) { s.Cores = most },
		"no policy":           func(s *api.System) { s.Policy = 0 },
		"another policy":      func(s *api.System) { s.Policy = 3 },
		"no protocol":         func(s *api.System) { s.Protocol = 0 },
		"another protocol":    func(s *api.System) { s.Protocol = 3 },
		"Edf and Mrsp":        func(s *api.System) { s.Policy, s.Protocol = api.Edf, api.Mrsp },
		"Release below":       func(s *api.System) { s.Release = -1 },
		"Release above":       func(s *api.System) { s.Release = 51 },
		"Switch below":        func(s *api.System) { s.Switch = -1 },
		"Switch above":        func(s *api.System) { s.Switch = 51 },
		"Finish below":        func(s *api.System) { s.Finish = least },
		"Finish above":        func(s *api.System) { s.Finish = 51 },
		"no latency":          func(s *api.System) { s.Latency = 0 },
		"a long latency":      func(s *api.System) { s.Latency = 51 },
		"Resources below":     func(s *api.System) { s.Resources = -1 },
		"nine resources":      func(s *api.System) { s.Resources = 9 },
		"no tasks":            func(s *api.System) { s.Tasks = nil },
		"many tasks":          func(s *api.System) { s.Tasks = slices.Repeat([]api.Task{task(100, 1)}, 25) },
		"no Period":           func(s *api.System) { s.Tasks[1] = by(0, 0, 0) },
		"a long Period":       func(s *api.System) { s.Tasks[1].Period = maxTime + 1 },
		"no Deadline":         func(s *api.System) { s.Tasks[2].Deadline = 0 },
		"a long Deadline":     func(s *api.System) { s.Tasks[2].Deadline = 81 },
		"no Wcet":             func(s *api.System) { s.Tasks[2].Wcet = 0 },
		"a Wcet below":        func(s *api.System) { s.Tasks[2].Wcet = least },
		"a long Wcet":         func(s *api.System) { s.Tasks[2].Wcet = 81 },
		"five sections":       func(s *api.System) { s.Tasks[3].Sections = slices.Repeat([]api.Section{of(0, 0, 1)}, 5) },
		"At below":            func(s *api.System) { s.Tasks[0].Sections[0].At = -1 },
		"sections that meet":  func(s *api.System) { s.Tasks[0].Sections[1].At = 4 },
		"no Res":              func(s *api.System) { s.Tasks[0].Sections[0].Res = -1 },
		"another Res":         func(s *api.System) { s.Tasks[0].Sections[0].Res = 2 },
		"no Len":              func(s *api.System) { s.Tasks[3].Sections[0].Len = 0 },
		"an end past the end": func(s *api.System) { s.Tasks[3].Sections[0].Len = 5 },
		"an end past all":     func(s *api.System) { s.Tasks[3].Sections[0].Len = most },
	}
}

// TestSystemsThatAreNotValid: for each condition of chapter 8, all calls refuse them.
func TestSystemsThatAreNotValid(t *testing.T) {
	if got := spelt(t, mixed()); got.err != api.OK || got.pieces() != 2 {
		t.Fatal(got)
	}
	for name, spoil := range spoils() {
		s := mixed()
		spoil(&s)
		if valid.Right(s) {
			t.Fatalf("still valid: %s", name)
		}
		refused(t, s)
	}
	refused(t, api.System{})
	refused(t, fixed(1, 0))
	refused(t, fixed(1, 0, by(10, 11, 5)))
	refused(t, fixed(1, 0, task(10, 5), task(10, 5, of(0, 0, 1))))
}

// numbers returns each number of s.
func numbers(s *api.System) []*int {
	l := []*int{&s.Cores, &s.Policy, &s.Protocol, &s.Release, &s.Switch, &s.Finish, &s.Latency, &s.Resources}
	for i := range s.Tasks {
		t := &s.Tasks[i]
		l = append(l, &t.Period, &t.Deadline, &t.Wcet)
		for j := range t.Sections {
			c := &t.Sections[j]
			l = append(l, &c.At, &c.Res, &c.Len)
		}
	}
	return l
}

// TestEveryNumberExchanged: by the least and the greatest, and those about where something changes.
func TestEveryNumberExchanged(t *testing.T) {
	s := mixed()
	for i := range numbers(&s) {
		for _, n := range []int{least, least + 1, -1, 0, 1, 2, 3, 4, 5, 8, 9, 20, 23, 24, 25, 50, 51, 59, 61, 69, 71, 80, 99, 119, 121, 199, 1000, maxTime, maxTime + 1, 1 << 62, most - 1, most} {
			u := mixed()
			*numbers(&u)[i] = n
			if got := spelt(t, u); valid.Right(u) == (got.err == api.ErrArg) {
				t.Fatalf("Place(%v) = %v", u, got)
			}
		}
	}
}

// P18.2

// TestExamples: those of the chapter.
func TestExamples(t *testing.T) {
	six, seven := task(10, 6), task(10, 7)
	plansWhole(t, fixed(2, 0, six, six), 0, 1)
	plans(t, fixed(2, 0, six, six, six), whole(0, six), whole(1, six), list(early(0, 4), last(1, 2, 6)))
	fails(t, fixed(2, 0, seven, seven, seven), api.ErrMiss)
}

// TestPriorities: those of Rank, of pieces of all kinds.
func TestPriorities(t *testing.T) {
	s := fixed(2, 0, task(30, 3), task(10, 6), task(10, 6), task(10, 5))
	plans(t, s, whole(1, s.Tasks[0]), whole(0, s.Tasks[1]), whole(1, s.Tasks[2]), list(early(0, 4), last(1, 1, 6)))
	bounds(t, s, 10, 10, 7, 5)
	plan, _, _ := Place(s)
	for task, want := range [][]int{{3}, {1}, {2}, {0, 1}} {
		for i, n := range want {
			if got := plan[task][i].Priority; got != n {
				t.Errorf("piece %d of task %d has the Priority %d, want %d", i, task, got, n)
			}
		}
	}
	s = mixed()
	s.Policy = api.Edf
	got := spelt(t, s)
	if got.pieces() != 2 {
		t.Error(got)
	}
	for _, l := range got.plan {
		for _, p := range l {
			if p.Priority != 0 {
				t.Errorf("under Edf: %v", p)
			}
		}
	}
}

// TestWholeTasksOnTheFirstCore: from 0 on, also if there is more room on a later one.
func TestWholeTasksOnTheFirstCore(t *testing.T) {
	for cores := 1; cores <= 8; cores++ {
		plansWhole(t, fixed(cores, 0, task(10, 1), task(10, 2), task(10, 3)), 0, 0, 0)
	}
	plansWhole(t, fixed(3, 0, task(10, 8), task(10, 7), task(10, 6), task(10, 3), task(10, 2)), 0, 1, 2, 1, 0)
	plansWhole(t, fixed(3, 0, task(10, 6), task(10, 4), task(10, 5), task(10, 4)), 0, 0, 1, 1)
	plansWhole(t, edf(3, 0, task(10, 9), task(10, 9), task(10, 9), task(20, 1), task(20, 1), task(20, 1)), 0, 1, 2, 0, 1, 2)
}

// TestGreatestPartsFirst: the numbers of the tasks tell only where parts are equal.
func TestGreatestPartsFirst(t *testing.T) {
	plansWhole(t, fixed(2, 0, task(10, 2), task(10, 8), task(10, 6), task(10, 3)), 0, 0, 1, 1)
	plansWhole(t, fixed(2, 0, task(10, 6), task(20, 14)), 1, 0)
	plansWhole(t, fixed(2, 0, task(10, 7), task(20, 14)), 0, 1)
	plansWhole(t, fixed(2, 0, by(30, 6, 6), task(10, 5)), 1, 0)
}

// TestGoodMeansAllCores: a core is passed over if a deadline would be missed there, by the task or by another one, or on another core.
func TestGoodMeansAllCores(t *testing.T) {
	plansWhole(t, fixed(2, 0, by(10, 6, 6), by(100, 8, 3)), 0, 1)
	plansWhole(t, fixed(2, 0, by(10, 7, 6), by(100, 5, 3)), 0, 1)
	for deadline := 22; deadline <= 30; deadline++ {
		// With the second one on core 1, the first one waits on core 0, for 3 ticks and one more; that counts once more in its block, in which its own section is.
		first, second := task(30, 18, of(0, 0, 1)), task(30, 13, of(0, 0, 3))
		first.Deadline = deadline
		s := fixed(3, 1, first, second)
		if deadline < 27 {
			fails(t, s, api.ErrMiss)
			continue
		}
		plansWhole(t, s, 0, 1)
		bounds(t, s, 27, 20)
	}
	// On core 0 it would wait for nobody.
	first, second := task(20, 11, of(0, 0, 1)), task(100, 8, of(0, 0, 8))
	first.Deadline = 19
	plansWhole(t, fixed(2, 1, first, second), 0, 0)
	first.Deadline = 18
	fails(t, fixed(2, 1, first, second), api.ErrMiss)
}

// TestSplits: with the greatest Budgets for the Tight pieces that the cores have room for.
func TestSplits(t *testing.T) {
	six := task(10, 6)
	s := late(fixed(2, 0, six, six, six), 3)
	plans(t, s, whole(0, six), whole(1, six), list(early(0, 4), last(1, 2, 4)))
	bounds(t, s, 10, 8, 8)
	nine := task(20, 9)
	s = costing(fixed(2, 0, nine, nine, nine), 0, 1, 0)
	plans(t, s, whole(0, nine), whole(1, nine), list(early(0, 5), last(1, 4, 15)))
	bounds(t, s, 20, 19, 13)
	more := task(24, 13)
	s = edf(2, 0, more, more, more) // a Tight piece comes three times within 25 ticks
	plans(t, s, whole(0, more), whole(1, more), list(early(0, 4), last(1, 9, 20)))
	bounds(t, s, 24, 24, 24)
	for wcet := 2; wcet < 60; wcet++ {
		s := fixed(2, 0, task(100, 90), task(100, 70), task(100, wcet))
		switch {
		case wcet <= 10:
			plansWhole(t, s, 0, 1, 0)
		case wcet <= 30:
			plansWhole(t, s, 0, 1, 1)
		case wcet <= 40:
			plans(t, s, whole(0, s.Tasks[0]), whole(1, s.Tasks[1]), list(early(0, 10), last(1, wcet-10, 90)))
		default:
			fails(t, s, api.ErrMiss)
		}
	}
}

// TestManyPieces: as many as there are cores, and no more.
func TestManyPieces(t *testing.T) {
	eight := task(10, 8)
	s := fixed(3, 0, eight, eight, eight, task(10, 6))
	plans(t, s, whole(0, eight), whole(1, eight), whole(2, eight), list(early(0, 2), early(1, 2), last(2, 2, 6)))
	bounds(t, s, 10, 10, 10, 6)
	for cores := 2; cores <= 8; cores++ {
		s := fixed(cores, 0, slices.Repeat([]api.Task{task(10, 9)}, cores)...)
		s.Tasks = append(s.Tasks, by(100, 12+cores, cores))
		var want [][]api.Piece
		var pieces []api.Piece
		for core := range cores {
			want = append(want, whole(core, s.Tasks[core]))
			pieces = append(pieces, early(core, 1))
		}
		pieces[cores-1] = last(cores-1, 1, 13)
		plans(t, s, append(want, pieces)...)
		s.Tasks[cores].Wcet++ // of which one unit would be left, after a Tight piece on each core
		fails(t, s, api.ErrMiss)
	}
}

// TestOneCore: there, nothing can be split.
func TestOneCore(t *testing.T) {
	plansWhole(t, fixed(1, 0, task(10, 6), task(10, 4)), 0, 0)
	fails(t, fixed(1, 0, task(10, 6), task(10, 5)), api.ErrMiss)
	fails(t, edf(1, 0, task(10, 6), task(10, 5)), api.ErrMiss)
}

// TestTightPieceOnTheFirstCore: on which one may be, though a later one may have more of it.
func TestTightPieceOnTheFirstCore(t *testing.T) {
	s := fixed(2, 0, task(10, 9), task(10, 6), task(10, 5))
	plans(t, s, whole(0, s.Tasks[0]), whole(1, s.Tasks[1]), list(early(0, 1), last(1, 4, 9)))
	s = fixed(3, 0, task(10, 10), task(10, 9), task(10, 6), task(10, 5))
	plans(t, s, whole(0, s.Tasks[0]), whole(1, s.Tasks[1]), whole(2, s.Tasks[2]), list(early(1, 1), last(2, 4, 9)))
}

// TestLastPieceOnTheFirstCore: also on one before that of the Tight piece, and before another Tight piece is tried.
func TestLastPieceOnTheFirstCore(t *testing.T) {
	s := fixed(2, 1, task(20, 14, of(0, 0, 1)), task(20, 13), task(20, 12)) // beside sections, there is no Tight piece
	plans(t, s, whole(0, s.Tasks[0]), whole(1, s.Tasks[1]), list(early(1, 7), last(0, 5, 13)))
	s = fixed(4, 0, task(20, 17), task(20, 16), task(20, 16), task(20, 16), task(20, 7))
	plans(t, s, whole(0, s.Tasks[0]), whole(1, s.Tasks[1]), whole(2, s.Tasks[2]), whole(3, s.Tasks[3]), list(early(0, 3), last(1, 4, 17)))
	s.Tasks[1].Wcet++
	plans(t, s, whole(0, s.Tasks[0]), whole(1, s.Tasks[1]), whole(2, s.Tasks[2]), whole(3, s.Tasks[3]), list(early(0, 3), last(2, 4, 17)))
	s.Tasks[4].Wcet++
	plans(t, s, whole(0, s.Tasks[0]), whole(1, s.Tasks[1]), whole(2, s.Tasks[2]), whole(3, s.Tasks[3]), list(early(0, 3), early(1, 3), last(2, 2, 14)))
}

// TestOneTightPieceOnACore: what another task has is passed over.
func TestOneTightPieceOnACore(t *testing.T) {
	six, five := task(10, 6), task(10, 5)
	plans(t, fixed(3, 0, six, six, six, five, five), whole(0, six), whole(1, six), whole(2, six), list(early(0, 4), last(1, 1, 6)), list(early(1, 3), last(2, 2, 7)))
}

// TestTasksWithSectionsAreNotSplit: even if all else is the same.
func TestTasksWithSectionsAreNotSplit(t *testing.T) {
	six, five, more := task(10, 6), task(10, 5), task(24, 13)
	for _, s := range []api.System{fixed(2, 1, six, six, five), edf(2, 1, more, more, more), mrsp(fixed(2, 1, more, more, more))} {
		if got := spelt(t, s); got.err != api.OK || got.pieces() != 2 {
			t.Fatal(got)
		}
		s.Tasks[2].Sections = []api.Section{of(0, 0, 1)}
		fails(t, s, api.ErrMiss)
		s.Cores = 3
		plansWhole(t, s, 0, 1, 2)
	}
}

// TestTimeForWhatIsLeft: behind the Tight piece and the interrupt, it is as many ticks as units at least.
func TestTimeForWhatIsLeft(t *testing.T) {
	for latency := 1; latency <= 50; latency++ {
		for deadline := 60; deadline <= 120; deadline++ {
			s := late(fixed(2, 0, task(200, 190), task(200, 145), by(1000, deadline, 60)), latency)
			if left := deadline - 10 - (latency - 1); left >= 50 {
				plans(t, s, whole(0, s.Tasks[0]), whole(1, s.Tasks[1]), list(early(0, 10), last(1, 50, left)))
			} else {
				fails(t, s, api.ErrMiss)
			}
		}
	}
}

// TestBisection: as the chapter spells it, which need not find the greatest Budget where Check runs out of steps for some and not for greater ones.
func TestBisection(t *testing.T) {
	s := edf(2, 0, task(146488, 33392), task(12090, 9331), by(10977052, 8000000, 300000), by(10977052, 8000000, 7700100))
	const found = 181
	plans(t, s, whole(0, s.Tasks[0]), whole(0, s.Tasks[1]), list(early(0, found), last(1, 300000-found, 8000000-found)), whole(1, s.Tasks[3]))
	for n, want := range map[int]api.Errno{found: api.OK, found + 1: api.ErrCap, found + 2: api.OK, found + 22: api.OK, found + 23: api.ErrCap} {
		plan := [][]api.Piece{whole(0, s.Tasks[0]), whole(0, s.Tasks[1]), list(early(0, n)), whole(1, s.Tasks[3])}
		if _, _, err := analysis.Check(s, plan); err != want {
			t.Errorf("Check of a Tight piece of %d: %d, want %d", n, err, want)
		}
	}
}

// tried holds what Check returned for the task for which Place returned an error, without repetitions; Place has to return err.
func tried(t *testing.T, s api.System, err api.Errno, want ...api.Errno) {
	t.Helper()
	fails(t, s, err)
	v := &rival{s: s}
	v.place()
	if got := slices.Compact(v.seen); !slices.Equal(got, want) {
		t.Fatalf("%v: Check returned %v, want %v", s, got, want)
	}
}

// slow is a task above which another one takes as many steps as it has units.
func slow() api.Task { return task(10000, 9999) }

// TestTooManySteps: of the whole task, of its Tight piece, and of its last piece, each of them alone.
func TestTooManySteps(t *testing.T) {
	full := task(maxTime, 4999) // with one tick more, it takes a step too many
	plansWhole(t, fixed(1, 0, slow(), full), 0, 0)
	tried(t, fixed(1, 0, slow(), task(maxTime, 5000)), api.ErrCap, api.ErrCap, api.ErrMiss, api.OK)
	tried(t, fixed(1, 0, slow(), full, by(maxTime, 15, 1)), api.ErrCap, api.ErrCap)
	s := fixed(1, 0, slow(), full, by(maxTime, 15, 12))
	tried(t, s, api.ErrCap, api.ErrMiss, api.ErrCap)
	s.Latency = 4
	tried(t, s, api.ErrCap, api.ErrMiss, api.ErrCap)
	s.Latency = 5 // there is no time for what is left, so that Check is not called
	tried(t, s, api.ErrMiss, api.ErrMiss)
	s = fixed(2, 0, task(1<<30, 1<<30-1), slow(), full, by(maxTime, 15, 2))
	tried(t, s, api.ErrCap, api.ErrMiss, api.OK, api.ErrCap)
	s.Tasks[2].Wcet--
	plans(t, s, whole(0, s.Tasks[0]), whole(1, s.Tasks[1]), whole(1, s.Tasks[2]), list(early(0, 1), last(1, 1, 14)))
	tried(t, edf(1, 0, slow()), api.ErrCap, api.ErrCap, api.OK)
}

// TestCapGoesBeforeMiss: whichever comes first.
func TestCapGoesBeforeMiss(t *testing.T) {
	all, more := task(10, 10), by(maxTime, 6000, 6000)
	more.Deadline = maxTime
	more.Sections = []api.Section{of(0, 0, 1)}
	tried(t, fixed(2, 1, all, slow(), more), api.ErrCap, api.ErrMiss, api.ErrCap)
	tried(t, fixed(3, 1, all, slow(), all, more), api.ErrCap, api.ErrMiss, api.ErrCap)
	tried(t, fixed(2, 1, slow(), task(10009, 10008, of(0, 0, 1)), more), api.ErrCap, api.ErrCap, api.ErrMiss)
}

// TestErrorsOfOtherTasksDoNotCount: of one that was placed on another core in the end.
func TestErrorsOfOtherTasksDoNotCount(t *testing.T) {
	s := fixed(2, 0, slow(), task(10, 2), task(maxTime, 6000))
	v := &rival{s: s}
	plansWhole(t, s, 0, 1, 1)
	if v.place(); !slices.Equal(v.seen, []api.Errno{api.ErrCap, api.OK}) {
		t.Fatal(v.seen)
	}
	s.Tasks = append(s.Tasks, by(maxTime, 10, 10))
	fails(t, s, api.ErrMiss)
	all := task(10, 10) // under Edf, it is split, as it takes too many steps as a whole
	plans(t, edf(2, 0, all), list(early(0, 9), last(1, 1, 1)))
	tried(t, edf(2, 0, slow(), all), api.ErrMiss, api.ErrMiss)
}

// flood returns tasks for one core: under the second to the last one, which share a resource, the first one takes so long that it just comes to an end in as many steps as there may be.
func flood() []api.Task {
	tasks := []api.Task{task(maxTime, 1<<31)}
	for _, period := range []int{2, 4, 8, 16, 32, 64, 128, 272} {
		tasks = append(tasks, task(period, 1, of(0, 0, 1)))
	}
	return tasks
}

// TestOverGoesBeforeCap: whichever comes first. If the task that can't be placed is on the core of the flood, it takes a step too many there; if it is on another one, those that share the resource wait so long for it that a number is too great.
func TestOverGoesBeforeCap(t *testing.T) {
	long := task(maxTime, 1<<31-3, of(0, 0, 1<<31-3))
	s := fixed(1, 1, flood()...)
	plansWhole(t, s, 0, 0, 0, 0, 0, 0, 0, 0, 0)
	s.Tasks = append(s.Tasks, long)
	tried(t, s, api.ErrCap, api.ErrCap)
	s.Cores = 2
	tried(t, s, api.ErrOver, api.ErrCap, api.ErrOver)
	s.Tasks = append(s.Tasks, task(maxTime, maxTime-1<<31+1)) // which leaves room for the long one, and for none of the flood
	tried(t, s, api.ErrOver, api.ErrOver, api.ErrCap)
	s.Cores = 3
	tried(t, s, api.ErrOver, api.ErrOver, api.ErrCap, api.ErrOver)
}

// TestOverGoesBeforeMiss: whichever comes first.
func TestOverGoesBeforeMiss(t *testing.T) {
	s := fixed(2, 1, task(maxTime, 1<<39), task(2, 1, of(0, 0, 1)), task(maxTime, 1<<39-1, of(0, 0, 1<<30)))
	tried(t, s, api.ErrOver, api.ErrMiss, api.ErrOver)
	s.Cores = 1
	tried(t, s, api.ErrMiss, api.ErrMiss)
	s.Cores = 3
	tried(t, s, api.ErrOver, api.ErrMiss, api.ErrOver)
	s.Tasks[0], s.Tasks[1] = s.Tasks[1], s.Tasks[0]
	tried(t, s, api.ErrMiss, api.ErrMiss) // a Deadline is missed before any number is too great
}

// TestWrongArgumentOfCheck: what a piece costs its core may be too much to be reckoned with; that is ErrMiss.
func TestWrongArgumentOfCheck(t *testing.T) {
	for _, policy := range []int{api.Fixed, api.Edf} {
		s := costing(fixed(1, 0, task(maxTime, maxTime)), 0, 0, 1)
		s.Policy = policy
		tried(t, s, api.ErrMiss, api.ErrArg, api.OK)
	}
}

// TestEverySmallSystem: of three tasks on two cores.
func TestEverySmallSystem(t *testing.T) {
	tasks := []api.Task{by(3, 3, 2), by(4, 4, 1), by(4, 4, 2), by(4, 4, 3), by(5, 4, 3), by(6, 4, 2), by(6, 6, 3), by(6, 6, 4), by(7, 6, 5), by(12, 7, 5), by(12, 12, 8)}
	splits := map[int]int{}
	for _, a := range tasks {
		for _, b := range tasks {
			for _, c := range tasks {
				for i, s := range []api.System{fixed(2, 0, a, b, c), late(fixed(2, 0, a, b, c), 2), late(fixed(2, 0, a, b, c), 3), edf(2, 0, a, b, c)} {
					if spelt(t, s).pieces() > 1 {
						splits[i]++
					}
				}
			}
		}
	}
	for i, n := range []int{300, 200, 100, 100} {
		if splits[i] < n {
			t.Errorf("too few are split: %v", splits)
		}
	}
}

// P18.3

// TestSystemsInAFixedOrder: of small and of all numbers, and such as have to be split.
func TestSystemsInAFixedOrder(t *testing.T) {
	number := source()
	found, pieces := map[api.Errno]int{}, map[int]int{}
	for i := range 2000 {
		s := drawnSmall(number)
		switch i % 10 {
		case 0:
			s = drawn(number)
		case 1, 2, 3:
			s = drawnToSplit(number)
		}
		got := spelt(t, s)
		if got.err == api.ErrArg {
			t.Fatal(s)
		}
		found[got.err]++
		pieces[got.pieces()]++
	}
	for _, err := range []api.Errno{api.OK, api.ErrMiss, api.ErrCap} {
		if found[err] < 50 {
			t.Error(found)
		}
	}
	if pieces[2] < 150 || pieces[3] < 50 || pieces[4] < 3 {
		t.Error(pieces)
	}
}

// P2 to P5

// TestArgumentsAreNotChanged: nor what stands behind the lengths of lists, which is not looked at.
func TestArgumentsAreNotChanged(t *testing.T) {
	s := mixed()
	s.Tasks = append(s.Tasks, api.Task{Period: -1, Wcet: most})
	s.Tasks[0].Sections = append(s.Tasks[0].Sections, of(-1, 99, -1))
	given := plain(s)
	u := given
	u.Tasks = slices.Clone(given.Tasks[:4])
	u.Tasks[0].Sections = u.Tasks[0].Sections[:2]
	for _, policy := range []int{api.Fixed, api.Edf} {
		u.Policy = policy
		if got := spelt(t, u); got.err != api.OK || got.pieces() != 2 {
			t.Fatal(got)
		}
		refused(t, given)
	}
	if u.Tasks = given.Tasks[:4]; len(spelt(t, u).plan) != 0 || !deeplyEqual(s, given) {
		t.Errorf("arguments were changed: %v, want %v", given, s)
	}
}

// filled writes into all the memory of a list, and returns how long it is with what is spare.
func filled[E any](l []E, e E) int {
	l = l[:cap(l)]
	for i := range l {
		l[i] = e
	}
	return len(l)
}

// TestResultsAreNewMemory: whatever is written into one, neither arguments nor other results are changed, nor other lists of it.
func TestResultsAreNewMemory(t *testing.T) {
	s := mixed()
	order, _ := Order(s)
	again, _ := Order(s)
	if filled(again, 77) < 4 || !slices.Equal(order, []int{0, 1, 2, 3}) {
		t.Errorf("results of Order share memory: %v", order)
	}
	want := spelt(t, s)
	other := placed(s)
	for i := range other.plan {
		before := outcome{plan: copied(other.plan)}
		if filled(other.plan[i], last(70+i, 70, 70)) == 0 {
			t.Fatal(other)
		}
		before.plan[i] = other.plan[i]
		if !before.equal(outcome{plan: other.plan}) {
			t.Errorf("lists of one result share memory: %v, want %v", other.plan, before.plan)
		}
	}
	filled(other.plan, list(last(79, 79, 79)))
	filled(other.bounds, 80)
	if got := placed(s); !got.equal(want) || !deeplyEqual(s, mixed()) {
		t.Errorf("results of Place share memory: %v, want %v", got, want)
	}
}

// TestCallsAreApart: what a call answers does not hang on those before it, also if they were given the same memory.
func TestCallsAreApart(t *testing.T) {
	s := mixed()
	want := spelt(t, s)
	for range 3 {
		s.Tasks[0].Deadline++
		refused(t, s)
		s.Tasks[0].Deadline--
		s.Tasks[2].Wcet = 80
		fails(t, s, api.ErrMiss)
		s.Tasks[2].Wcet = 24
		s.Cores = 4
		plansWhole(t, s, 0, 1, 2, 0)
		s.Cores = 2
		if got := spelt(t, s); !got.equal(want) {
			t.Fatalf("Place = %v, and was %v", got, want)
		}
	}
}

// Ways

// sources returns the files of the package that are no tests.
func sources(t *testing.T) map[string]*ast.File {
	t.Helper()
	names, err := filepath.Glob("*.go")
	if err != nil || len(names) == 0 {
		t.Fatal(names, err)
	}
	files := map[string]*ast.File{}
	for _, name := range names {
		if strings.HasSuffix(name, "_test.go") {
			continue
		}
		file, err := parser.ParseFile(token.NewFileSet(), name, nil, 0)
		if err != nil {
			t.Fatal(err)
		}
		files[name] = file
	}
	return files
}

// TestImports: the chapter lets the layer import qarith, valid, analysis and api only, of the project's packages.
func TestImports(t *testing.T) {
	may := []string{"tourbillon/api", "tourbillon/qarith", "tourbillon/valid", "tourbillon/analysis", "slices"}
	for name, file := range sources(t) {
		for _, i := range file.Imports {
			if !slices.Contains(may, strings.Trim(i.Path.Value, `"`)) {
				t.Errorf("%s imports %s", name, i.Path.Value)
			}
		}
	}
}

// called returns the name of what x calls; "" if it calls nothing that has one.
func called(x ast.Node) string {
	c, ok := x.(*ast.CallExpr)
	if !ok {
		return ""
	}
	switch f := c.Fun.(type) {
	case *ast.Ident:
		return f.Name
	case *ast.SelectorExpr:
		return f.Sel.Name
	}
	return ""
}

// trial reports whether x is a function literal that writes an element of the plan twice, to add a piece and to remove it, and calls Check between.
func trial(x ast.Node) bool {
	f, ok := x.(*ast.FuncLit)
	if !ok {
		return false
	}
	var steps []string
	ast.Inspect(f.Body, func(n ast.Node) bool {
		if a, ok := n.(*ast.AssignStmt); ok && len(a.Lhs) == 1 {
			if _, ok := a.Lhs[0].(*ast.IndexExpr); ok {
				steps = append(steps, "write")
			}
		}
		if n != nil && called(n) == "Check" {
			steps = append(steps, "Check")
		}
		return true
	})
	return slices.Equal(steps, []string{"write", "Check", "write"})
}

// TestWays: pieces are tried by a closure, and a task that can't be placed is handled with a label.
func TestWays(t *testing.T) {
	trials, labels := 0, 0
	for _, file := range sources(t) {
		ast.Inspect(file, func(n ast.Node) bool {
			if n != nil && trial(n) {
				trials++
			}
			if b, ok := n.(*ast.BranchStmt); ok && b.Label != nil {
				labels++
			}
			return true
		})
	}
	if trials != 1 || labels != 1 {
		t.Errorf("%d closures that try a piece, %d branches to a label", trials, labels)
	}
}
