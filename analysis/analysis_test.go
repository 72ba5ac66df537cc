package analysis

import (
	"go/ast"
	"go/parser"
	"go/token"
	"path/filepath"
	"slices"
	"strings"
	"testing"

	"tourbillon/api"
	"tourbillon/demand"
	"tourbillon/response"
	"tourbillon/valid"
)

const (
	most    = 1<<63 - 1
	least   = -1 << 63
	maxTime = api.MaxTime
)

// extremes are no cores, tasks, pieces or Budgets. Some of them have the lower bits of one.
var extremes = []int{-1, -2, -8, least, least + 1, least + 2, -1 << 31, -1 << 32, -1<<32 + 1, -1 << 53, 1 << 53, 1<<53 + 1, 1 << 62, 1<<62 + 2, most - 1, most}

// noNumbers are none of the numbers from 0 to 23, nor are the extremes.
var noNumbers = append([]int{24, 25, 31, 32, 33, 64, 255, 256, 257, 1 << 16, 1<<31 - 1, 1 << 31, 1 << 32, 1<<32 + 1}, extremes...)

// tight returns a Tight piece.
func tight(core, budget int) api.Piece {
	return api.Piece{Core: core, Budget: budget, Deadline: budget, Tight: true}
}

// last returns a piece that is not Tight.
func last(core, budget, deadline int) api.Piece {
	return api.Piece{Core: core, Budget: budget, Deadline: deadline}
}

// list returns the list of a task.
func list(pieces ...api.Piece) []api.Piece { return pieces }

// whole returns the list of a task that is whole on core.
func whole(core int, t api.Task) []api.Piece { return list(last(core, t.Wcet, t.Deadline)) }

// task returns one whose Deadline is its Period.
func task(period, wcet int, sections ...api.Section) api.Task {
	return api.Task{Period: period, Deadline: period, Wcet: wcet, Sections: sections}
}

// of returns a section of so many units with a resource; at is where it begins.
func of(at, res, size int) api.Section { return api.Section{At: at, Res: res, Len: size} }

// fixed returns a valid system without costs, under Fixed and Msrp.
func fixed(cores, resources int, tasks ...api.Task) api.System {
	return api.System{Cores: cores, Policy: api.Fixed, Protocol: api.Msrp, Latency: 1, Resources: resources, Tasks: tasks}
}

// edf returns a valid system without costs, under Edf.
func edf(cores, resources int, tasks ...api.Task) api.System {
	s := fixed(cores, resources, tasks...)
	s.Policy = api.Edf
	return s
}

// mrsp returns s under Fixed and Mrsp.
func mrsp(s api.System) api.System {
	s.Policy, s.Protocol = api.Fixed, api.Mrsp
	return s
}

// costing returns s with costs of Release, Switch and Finish.
func costing(s api.System, release, change, finish int) api.System {
	s.Release, s.Switch, s.Finish = release, change, finish
	return s
}

// late returns s with a Latency.
func late(s api.System, latency int) api.System {
	s.Latency = latency
	return s
}

// placed returns the plan in which each task is whole on the core that is given for it.
func placed(s api.System, where ...int) [][]api.Piece {
	var plan [][]api.Piece
	for task, core := range where {
		plan = append(plan, whole(core, s.Tasks[task]))
	}
	return plan
}

// rights holds what Right returns, and all else that the calls answer, against what is wanted.
func rights(t *testing.T, s api.System, plan [][]api.Piece, want bool) {
	t.Helper()
	if got := Right(s, plan); got != want {
		t.Fatalf("Right(%v, %v) = %v, want %v", s, plan, got, want)
	}
	if !want {
		refused(t, s, plan)
	}
	spelt(t, s, plan)
}

// ranks holds the Priorities that Rank returns, task by task, against what is wanted; nothing else of the plan may be another.
func ranks(t *testing.T, s api.System, plan [][]api.Piece, want ...[]int) {
	t.Helper()
	ranked, err := Rank(s, plan)
	wanted := copied(plan)
	for task := range wanted {
		for i := range wanted[task] {
			wanted[task][i].Priority = want[task][i]
		}
	}
	if !sameLists(ranked, wanted) || err != api.OK {
		t.Fatalf("Rank(%v, %v) = %v, %d, want %v", s, plan, ranked, err, want)
	}
	spelt(t, s, plan)
}

// tops holds what Ceilings returns, core by core, against what is wanted.
func tops(t *testing.T, s api.System, plan [][]api.Piece, want ...[]int) {
	t.Helper()
	rows, err := Ceilings(s, plan)
	if !sameLists(rows, want) || err != api.OK {
		t.Fatalf("Ceilings(%v, %v) = %v, %d, want %v", s, plan, rows, err, want)
	}
	spelt(t, s, plan)
}

// owns holds what Own returns against what is wanted.
func owns(t *testing.T, s api.System, plan [][]api.Piece, task, piece, want int) {
	t.Helper()
	if n, err := Own(s, plan, task, piece); n != want || err != api.OK {
		t.Fatalf("Own(%v, %v, %d, %d) = %d, %d, want %d", s, plan, task, piece, n, err, want)
	}
}

// bounds holds that Check returns OK and these bounds.
func bounds(t *testing.T, s api.System, plan [][]api.Piece, want ...int) {
	t.Helper()
	if got := spelt(t, s, plan); !got.equal(outcome{want, -1, api.OK}) {
		t.Fatalf("Check(%v, %v) = %v, want %v", s, plan, got, want)
	}
}

// faults holds that Check returns that error of that core.
func faults(t *testing.T, s api.System, plan [][]api.Piece, core int, err api.Errno) {
	t.Helper()
	if got := spelt(t, s, plan); !got.equal(outcome{nil, core, err}) {
		t.Fatalf("Check(%v, %v) = %v, want core %d and %d", s, plan, got, core, err)
	}
}

// mixed returns a valid system with tasks with and without sections, and a valid plan with tasks of all kinds: whole, split, open, and not placed.
func mixed() (api.System, [][]api.Piece) {
	s := costing(late(fixed(4, 3,
		task(300, 20, of(2, 0, 3), of(8, 1, 4)),
		task(200, 30),
		task(400, 25, of(0, 0, 5)),
		task(100, 9),
		task(500, 40),
		task(250, 10, of(9, 1, 1)),
		task(350, 12),
	), 3), 1, 2, 1)
	return s, [][]api.Piece{
		whole(0, s.Tasks[0]),
		list(tight(2, 10), last(0, 20, 188)),
		whole(1, s.Tasks[2]),
		nil,
		list(tight(3, 39)),
		whole(0, s.Tasks[5]),
		whole(2, s.Tasks[6]),
	}
}

// P17.1

// TestMixed: what other tests begin with is right, and meets its deadlines.
func TestMixed(t *testing.T) {
	s, plan := mixed()
	for _, u := range []api.System{s, mrsp(s), edf(4, 3, s.Tasks...)} {
		u.Latency = 3
		rights(t, u, plan, true)
		if got := spelt(t, u, plan); got.err != api.OK {
			t.Fatal(got)
		}
	}
}

// TestNoPieceAtAll: with lists that are nil or empty.
func TestNoPieceAtAll(t *testing.T) {
	for n := 1; n <= api.MaxTasks; n++ {
		for _, s := range []api.System{fixed(2, 1), mrsp(fixed(2, 1)), edf(2, 1)} {
			s.Tasks = slices.Repeat([]api.Task{task(10, 10, of(0, 0, 10))}, n)
			plan := make([][]api.Piece, n)
			for i := range n / 2 {
				plan[i] = []api.Piece{}
			}
			rights(t, s, plan, true)
			bounds(t, s, plan, make([]int, n)...)
			tops(t, s, plan, []int{0}, []int{0})
			ranks(t, s, plan, make([][]int, n)...)
		}
	}
}

// TestPlanOfAnotherLength: there is a list for each task, and no more.
func TestPlanOfAnotherLength(t *testing.T) {
	s, plan := mixed()
	for n := range len(plan) {
		refused(t, s, plan[:n])
	}
	for _, more := range [][][]api.Piece{{nil}, {{}}, {whole(3, s.Tasks[0])}, make([][]api.Piece, 100)} {
		refused(t, s, append(copied(plan), more...))
	}
	refused(t, s, nil)
	refused(t, s, [][]api.Piece{})
	one := fixed(1, 0, task(10, 10))
	refused(t, one, nil)
	rights(t, one, [][]api.Piece{nil}, true)
	refused(t, one, [][]api.Piece{nil, nil})
	refused(t, one, make([][]api.Piece, 25))
}

// spoils returns what makes a system invalid, by the conditions of chapter 8.
func spoils() map[string]func(s *api.System) {
	return map[string]func(s *api.System){
		"no core":            func(s *api.System) { s.Cores = 0 },
		"a core too many":    func(s *api.System) { s.Cores = api.MaxCores + 1 },
		"most cores":         func(s *api.System) { s.Cores = most },
		"least cores":        func(s *api.System) { s.Cores = least },
		"no policy":          func(s *api.System) { s.Policy = 0 },
		"another policy":     func(s *api.System) { s.Policy = 3 },
		"no protocol":        func(s *api.System) { s.Protocol = 0 },
		"another protocol":   func(s *api.System) { s.Protocol = 3 },
		"Edf with Mrsp":      func(s *api.System) { s.Policy, s.Protocol = api.Edf, api.Mrsp },
		"least Release":      func(s *api.System) { s.Release = least },
		"great Release":      func(s *api.System) { s.Release = api.MaxCost + 1 },
		"negative Switch":    func(s *api.System) { s.Switch = -1 },
		"great Switch":       func(s *api.System) { s.Switch = api.MaxCost + 1 },
		"negative Finish":    func(s *api.System) { s.Finish = -1 },
		"most Finish":        func(s *api.System) { s.Finish = most },
		"no Latency":         func(s *api.System) { s.Latency = 0 },
		"great Latency":      func(s *api.System) { s.Latency = api.MaxLatency + 1 },
		"negative Resources": func(s *api.System) { s.Resources = -1 },
		"great Resources":    func(s *api.System) { s.Resources = api.MaxRes + 1 },
		"few Resources":      func(s *api.System) { s.Resources = 1 },
		"no Period":          func(s *api.System) { s.Tasks[3].Period = 0 },
		"great Period":       func(s *api.System) { s.Tasks[3].Period = maxTime + 1 },
		"great Deadline":     func(s *api.System) { s.Tasks[3].Deadline = 101 },
		"no Wcet":            func(s *api.System) { s.Tasks[3].Wcet = 0 },
		"great Wcet":         func(s *api.System) { s.Tasks[3].Wcet = 101 },
		"sections that meet": func(s *api.System) { s.Tasks[0].Sections[1].At = 4 },
		"a section too many": func(s *api.System) {
			s.Tasks[0].Sections = []api.Section{of(0, 0, 1), of(1, 0, 1), of(2, 0, 1), of(3, 0, 1), of(4, 0, 1)}
		},
		"no Res":              func(s *api.System) { s.Tasks[2].Sections[0].Res = -1 },
		"another Res":         func(s *api.System) { s.Tasks[2].Sections[0].Res = 3 },
		"most Res":            func(s *api.System) { s.Tasks[2].Sections[0].Res = most },
		"no Len":              func(s *api.System) { s.Tasks[5].Sections[0].Len = 0 },
		"an end past the end": func(s *api.System) { s.Tasks[5].Sections[0].Len = 2 },
	}
}

// TestSystemsThatAreNotValid: for each condition of chapter 8, all calls refuse every plan.
func TestSystemsThatAreNotValid(t *testing.T) {
	for name, spoil := range spoils() {
		s, plan := mixed()
		s = plain(s)
		spoil(&s)
		if valid.Right(s) {
			t.Fatalf("still valid: %s", name)
		}
		refused(t, s, plan)
		refused(t, s, make([][]api.Piece, len(plan)))
		refused(t, s, nil)
	}
	s, _ := mixed()
	s.Tasks = nil
	refused(t, s, nil)
	refused(t, s, [][]api.Piece{})
	s.Tasks = slices.Repeat([]api.Task{task(10, 1)}, 25)
	refused(t, s, make([][]api.Piece, 25))
	s.Tasks = s.Tasks[:24]
	rights(t, s, make([][]api.Piece, 24), true)
}

// TestKindsOfLists: of one task that is whole, split, open, or not placed.
func TestKindsOfLists(t *testing.T) {
	s := fixed(4, 1, task(20, 8))
	for _, l := range [][]api.Piece{
		nil,
		list(last(0, 8, 20)),
		list(last(3, 8, 20)),
		list(tight(0, 1)),
		list(tight(2, 7)),
		list(tight(0, 1), tight(1, 6)),
		list(tight(3, 5), last(0, 3, 15)),
		list(tight(3, 7), last(0, 1, 13)),
		list(tight(3, 1), tight(1, 2), last(0, 5, 17)),
		list(tight(3, 1), tight(1, 2), tight(0, 3), last(2, 2, 14)),
		list(tight(3, 1), tight(1, 2), tight(0, 3), tight(2, 1)),
	} {
		rights(t, s, [][]api.Piece{l}, true)
	}
	for _, l := range [][]api.Piece{
		list(tight(0, 8)),
		list(tight(0, 9)),
		list(tight(0, 4), tight(1, 4)),
		list(tight(0, 4), tight(1, 5)),
		list(last(0, 7, 20)),
		list(last(0, 9, 20)),
		list(last(0, 8, 19)),
		list(last(0, 8, 21)),
		list(last(0, 8, 8)),
		list(last(0, 5, 20), last(1, 3, 15)),
		list(last(0, 5, 20), last(1, 3, 20)),
		list(last(0, 5, 5), last(1, 3, 15)),
		list(last(0, 5, 5), last(1, 8, 20)),
		list(last(0, 8, 20), tight(1, 1)),
		list(last(0, 5, 20), tight(1, 3)),
		list(tight(0, 2), last(1, 3, 18), last(2, 3, 15)),
		list(tight(0, 2), last(1, 3, 18), tight(2, 2)),
		list(last(1, 3, 20), tight(0, 2), last(2, 3, 15)),
		list(last(0, 8, 20), last(1, 8, 20)),
		list(last(0, 8, 20), api.Piece{}),
		list(api.Piece{}, last(0, 8, 20)),
		list(api.Piece{}),
		list(api.Piece{Tight: true}),
	} {
		rights(t, s, [][]api.Piece{l}, false)
	}
}

// eight returns a system of eight cores with one task of so much work, and pieces of one unit on so many cores; of more pieces than cores, the others are on the last core.
func eight(wcet, pieces int) (api.System, []api.Piece) {
	s := fixed(8, 0, task(100, wcet))
	var l []api.Piece
	for i := range pieces {
		l = append(l, tight(min(i, 7), 1))
	}
	return s, l
}

// TestAsManyPiecesAsThereMayBe: and one more, which is on a core where there is one, or on none.
func TestAsManyPiecesAsThereMayBe(t *testing.T) {
	for n := 1; n <= 8; n++ {
		s, l := eight(50, n)
		rights(t, s, [][]api.Piece{l}, true)
		l[n-1] = last(n-1, 51-n, 101-n)
		rights(t, s, [][]api.Piece{l}, true)
		s.Cores = n
		rights(t, s, [][]api.Piece{l}, true)
		s.Cores = n - 1
		rights(t, s, [][]api.Piece{l}, false)
	}
	for _, n := range []int{9, 10, 17, 100, 5000} {
		s, l := eight(50, n)
		rights(t, s, [][]api.Piece{l[:8]}, true)
		rights(t, s, [][]api.Piece{l[:9]}, false)
		rights(t, s, [][]api.Piece{l}, false)
		for _, core := range []int{0, 3, 7, 8, -1, most, least} {
			l[8] = last(core, 42, 92)
			rights(t, s, [][]api.Piece{l[:9]}, false)
			l[n-1] = last(core, 51-n, 101-n)
			rights(t, s, [][]api.Piece{l}, false)
			l[8] = tight(core, 1)
			rights(t, s, [][]api.Piece{l[:9]}, false)
		}
	}
}

// TestCoresThatAreNone: of a piece of any kind.
func TestCoresThatAreNone(t *testing.T) {
	for cores := 1; cores <= 8; cores++ {
		s := fixed(cores, 0, task(20, 8))
		for _, core := range append(upTo(10), noNumbers...) {
			want := core >= 0 && core < cores
			rights(t, s, [][]api.Piece{list(last(core, 8, 20))}, want)
			rights(t, s, [][]api.Piece{list(tight(core, 7))}, want)
			other := (core + 1) & 7
			want = want && other < cores
			rights(t, s, [][]api.Piece{list(tight(core, 3), last(other, 5, 17))}, want)
			rights(t, s, [][]api.Piece{list(tight(other, 3), last(core, 5, 17))}, want)
			rights(t, s, [][]api.Piece{list(tight(other, 3), tight(core, 4))}, want)
		}
	}
}

// TestTwoPiecesOnOneCore: neither next to each other nor with others between.
func TestTwoPiecesOnOneCore(t *testing.T) {
	s := fixed(3, 0, task(20, 8))
	for core := range 3 {
		for other := range 3 {
			rights(t, s, [][]api.Piece{list(tight(core, 3), last(other, 5, 17))}, core != other)
			rights(t, s, [][]api.Piece{list(tight(core, 3), tight(other, 4))}, core != other)
			for third := range 3 {
				apart := core != other && core != third && other != third
				rights(t, s, [][]api.Piece{list(tight(core, 3), tight(other, 2), last(third, 3, 15))}, apart)
				rights(t, s, [][]api.Piece{list(tight(core, 3), tight(other, 2), tight(third, 2))}, apart)
			}
		}
	}
}

// TestBudgets: of 0, of 1, and with a sum of just the Wcet, one less and one more.
func TestBudgets(t *testing.T) {
	s := fixed(3, 0, task(20, 8), task(20, 1), task(maxTime, maxTime))
	try := func(task int, l []api.Piece, want bool) {
		t.Helper()
		plan := make([][]api.Piece, 3)
		plan[task] = l
		rights(t, s, plan, want)
	}
	for budget := -3; budget < 12; budget++ {
		try(0, list(last(0, budget, 20)), budget == 8)
		try(0, list(tight(0, budget)), budget >= 1 && budget < 8)
		try(1, list(last(0, budget, 20)), budget == 1)
		try(1, list(tight(0, budget)), false)
		for other := -3; other < 12; other++ {
			sum := budget + other
			try(0, list(tight(0, budget), last(1, other, 20-budget)), budget >= 1 && other >= 1 && sum == 8)
			try(0, list(tight(0, budget), tight(1, other)), budget >= 1 && other >= 1 && sum < 8)
			try(1, list(tight(0, budget), last(1, other, 20-budget)), false)
			try(0, list(tight(0, budget), tight(1, other), last(2, 8-sum, 20-sum)), budget >= 1 && other >= 1 && sum < 8)
			try(0, list(tight(0, budget), tight(1, other), last(2, 7-sum, 20-sum)), false)
			try(0, list(tight(0, budget), tight(1, other), last(2, 9-sum, 20-sum)), false)
		}
	}
	for _, budget := range append(slices.Clone(extremes), maxTime-1, maxTime, maxTime+1) {
		try(2, list(last(0, budget, maxTime)), budget == maxTime)
		try(2, list(tight(0, budget)), budget == maxTime-1)
		try(2, list(tight(0, budget), last(1, maxTime-budget, maxTime-budget)), budget == maxTime-1)
		try(2, list(tight(0, 1), last(1, budget, maxTime-1)), budget == maxTime-1)
	}
}

// TestBudgetsThatWrapRound: whose sum looks right in 64 bits.
func TestBudgetsThatWrapRound(t *testing.T) {
	s := fixed(4, 0, task(20, 8))
	for _, l := range [][]api.Piece{
		list(tight(0, most), tight(1, most), last(2, 10, 22)),
		list(tight(0, 1<<62), tight(1, 1<<62), tight(2, 1<<62), last(3, 1<<62+8, 20)),
		list(tight(0, most), last(1, least+9, 20)),
		list(tight(0, 4), tight(1, most), tight(2, most), last(3, 6, 18)),
		list(tight(0, 4), tight(1, most), tight(2, most), tight(3, 5)),
		list(tight(0, most), tight(1, most)),
		list(tight(0, least), tight(1, least), last(2, 8, 20)),
		list(tight(0, -1), last(1, 9, 21)),
		list(tight(0, 9), last(1, -1, 11)),
		list(tight(0, 9), tight(1, -2)),
	} {
		rights(t, s, [][]api.Piece{l}, false)
	}
}

// TestDeadlinesOfTightPieces: as many ticks as units, wherever the piece is.
func TestDeadlinesOfTightPieces(t *testing.T) {
	s := late(fixed(3, 0, task(20, 8)), 3)
	for _, deadline := range append([]int{0, 1, 2, 3, 4, 5, 20}, extremes...) {
		p, o := tight(0, 3), tight(1, 3)
		p.Deadline, o.Deadline = deadline, deadline
		rights(t, s, [][]api.Piece{list(p)}, deadline == 3)
		rights(t, s, [][]api.Piece{list(tight(2, 2), o)}, deadline == 3)
		rights(t, s, [][]api.Piece{list(p, last(1, 5, 15))}, deadline == 3)
		rights(t, s, [][]api.Piece{list(tight(2, 2), p, last(1, 3, 11))}, deadline == 3)
		rights(t, s, [][]api.Piece{list(p, tight(2, 2), last(1, 3, 11))}, deadline == 3)
		p.Tight = false
		rights(t, s, [][]api.Piece{list(p)}, false)
	}
}

// TestDeadlinesOfLastPieces: for all Latencies, what the pieces before it leave, and nothing else; it is at least 1.
func TestDeadlinesOfLastPieces(t *testing.T) {
	for latency := 1; latency <= 50; latency++ {
		for _, spare := range []int{0, 1, 2, 48, 49, 50, 51, 97, 98, 99, 100, 200} {
			s := late(fixed(3, 0, api.Task{Period: 300, Deadline: 20 + spare, Wcet: 20}), latency)
			all := 20 + spare
			two := all - 7 - (latency - 1)
			three := all - 7 - 8 - 2*(latency-1)
			for _, by := range []int{-all, -two, -three, -latency, -2, -1, 0, 1, 2, latency, 60, most - all, least} {
				rights(t, s, [][]api.Piece{list(last(2, 20, all+by))}, by == 0)
				rights(t, s, [][]api.Piece{list(tight(0, 7), last(2, 13, two+by))}, by == 0 && two >= 1)
				rights(t, s, [][]api.Piece{list(tight(0, 7), tight(1, 8), last(2, 5, three+by))}, by == 0 && three >= 1)
			}
		}
	}
}

// TestLastDeadlineAboutOne: just 0 and just 1, which is right, even if the Budget is more.
func TestLastDeadlineAboutOne(t *testing.T) {
	for latency := 2; latency <= 50; latency++ {
		for deadline := 8; deadline < 60; deadline++ {
			s := late(fixed(2, 0, api.Task{Period: 60, Deadline: deadline, Wcet: 8}), latency)
			left := deadline - 3 - (latency - 1)
			rights(t, s, [][]api.Piece{list(tight(0, 3), last(1, 5, left))}, left >= 1)
			if left >= 1 && left < 5 {
				faults(t, s, [][]api.Piece{list(tight(0, 3), last(1, 5, left))}, 1, api.ErrMiss)
			}
		}
	}
}

// TestSectionsAndTight: a task with sections has none, even if it is open.
func TestSectionsAndTight(t *testing.T) {
	s := fixed(3, 1, task(20, 8, of(7, 0, 1)), task(20, 8))
	for other, want := range []bool{false, true} {
		for _, l := range [][]api.Piece{list(tight(0, 3)), list(tight(0, 3), last(1, 5, 17)), list(tight(0, 3), tight(1, 2), last(2, 3, 15))} {
			plan := make([][]api.Piece, 2)
			plan[other] = l
			rights(t, s, plan, want)
		}
	}
	rights(t, s, placed(s, 0, 0), true)
}

// TestTightBesideOthers: a core has one Tight piece at most, and beside it no task with sections; all else may be there.
func TestTightBesideOthers(t *testing.T) {
	s := fixed(3, 1, task(40, 8), task(40, 8), task(40, 8, of(0, 0, 1)), task(40, 8))
	kinds := [][]api.Piece{nil, list(last(0, 8, 40)), list(tight(0, 3)), list(tight(0, 3), last(1, 5, 37)), list(tight(1, 3), last(0, 5, 37)), list(tight(1, 3), tight(0, 3), last(2, 2, 34))}
	for _, a := range kinds {
		for _, b := range kinds {
			for sharing := range 3 {
				for _, more := range [][]api.Piece{nil, list(last(0, 8, 40)), list(last(1, 8, 40))} {
					plan := [][]api.Piece{a, b, nil, more}
					if sharing > 0 {
						plan[2] = list(last(sharing-1, 8, 40))
					}
					spelt(t, s, plan)
				}
			}
		}
	}
	for _, c := range []struct {
		plan [][]api.Piece
		want bool
	}{
		{[][]api.Piece{list(tight(0, 3)), list(tight(0, 3)), nil, nil}, false},
		{[][]api.Piece{list(tight(0, 3)), list(tight(1, 3)), nil, nil}, true},
		{[][]api.Piece{list(tight(0, 3), last(1, 5, 37)), list(tight(1, 3), last(0, 5, 37)), nil, nil}, true},
		{[][]api.Piece{list(tight(0, 3), last(1, 5, 37)), list(tight(0, 1), last(2, 7, 39)), nil, nil}, false},
		{[][]api.Piece{list(tight(0, 3), last(1, 5, 37)), list(tight(2, 1), tight(0, 1), last(1, 6, 38)), nil, nil}, false},
		{[][]api.Piece{list(tight(0, 3), last(1, 5, 37)), list(last(0, 8, 40)), nil, list(last(0, 8, 40))}, true},
		{[][]api.Piece{list(tight(0, 3), last(1, 5, 37)), nil, list(last(0, 8, 40)), nil}, false},
		{[][]api.Piece{list(tight(0, 3), last(1, 5, 37)), nil, list(last(1, 8, 40)), nil}, true},
		{[][]api.Piece{list(tight(0, 3), last(1, 5, 37)), nil, list(last(2, 8, 40)), nil}, true},
		{[][]api.Piece{nil, nil, list(last(0, 8, 40)), list(tight(0, 3))}, false},
		{[][]api.Piece{nil, nil, list(last(0, 8, 40)), list(tight(1, 3), tight(0, 3))}, false},
		{[][]api.Piece{nil, nil, list(last(0, 8, 40)), list(tight(1, 3), last(0, 5, 37))}, true},
	} {
		rights(t, s, c.plan, c.want)
	}
}

// TestPrioritiesAreNotChecked: nor looked at.
func TestPrioritiesAreNotChecked(t *testing.T) {
	for _, policy := range []int{api.Fixed, api.Edf} {
		s, plan := mixed()
		s.Policy = policy
		want := spelt(t, s, plan)
		ranked, _ := Rank(s, plan)
		rows, _ := Ceilings(s, plan)
		for i, n := range append([]int{1, 2, 3, 200}, noNumbers...) {
			other := copied(plan)
			for task := range other {
				for at := range other[task] {
					other[task][at].Priority = n + i*task
				}
			}
			rights(t, s, other, true)
			if got := spelt(t, s, other); !got.equal(want) {
				t.Fatalf("Check is %v with other Priorities, and was %v", got, want)
			}
			again, _ := Rank(s, other)
			tops(t, s, other, rows...)
			if !sameLists(again, ranked) {
				t.Fatalf("Rank is %v with other Priorities, and was %v", again, ranked)
			}
		}
	}
}

// TestEverySmallList: of one task, with up to two pieces of any numbers.
func TestEverySmallList(t *testing.T) {
	var pieces []api.Piece
	for core := -1; core <= 2; core++ {
		for budget := 0; budget <= 4; budget++ {
			for deadline := 0; deadline <= 5; deadline++ {
				p := last(core, budget, deadline)
				o := p
				o.Tight = true
				pieces = append(pieces, p, o)
			}
		}
	}
	systems := []api.System{
		fixed(2, 1, task(5, 3)),
		late(edf(2, 1, api.Task{Period: 5, Deadline: 4, Wcet: 3}), 2),
		fixed(2, 1, task(5, 3, of(1, 0, 1))),
		mrsp(fixed(1, 0, task(3, 2))),
	}
	found := 0
	for _, s := range systems {
		for _, p := range pieces {
			spelt(t, s, [][]api.Piece{list(p)})
			for _, o := range pieces {
				plan := [][]api.Piece{list(p, o)}
				right := rival{s, plan}.right()
				if Right(s, plan) != right {
					t.Fatalf("Right(%v, %v) is not %v", s, plan, right)
				}
				if right {
					spelt(t, s, plan)
					found++
				}
			}
		}
	}
	if found < 10 {
		t.Errorf("only %d are right", found)
	}
}

// TestEveryNumberExchanged: at each place of a system and of a plan, by the least and the greatest and those about 0.
func TestEveryNumberExchanged(t *testing.T) {
	for _, protocol := range []int{api.Msrp, api.Mrsp} {
		s, plan := mixed()
		s.Protocol = protocol
		for place := range places(&s, plan) {
			for _, n := range []int{least, least + 1, -1, 0, 1, 2, 3, 4, 5, 8, 9, 20, 50, 51, 188, maxTime, maxTime + 1, 1 << 62, most - 1, most} {
				u, other := plain(s), copied(plan)
				*places(&u, other)[place] = n
				spelt(t, u, other)
			}
		}
		for task := range plan {
			for at := range plan[task] {
				other := copied(plan)
				other[task][at].Tight = !other[task][at].Tight
				spelt(t, s, other)
			}
		}
	}
}

// places returns where the numbers of s and of plan stand.
func places(s *api.System, plan [][]api.Piece) []*int {
	l := []*int{&s.Cores, &s.Policy, &s.Protocol, &s.Release, &s.Switch, &s.Finish, &s.Latency, &s.Resources}
	for i := range s.Tasks {
		task := &s.Tasks[i]
		l = append(l, &task.Period, &task.Deadline, &task.Wcet)
		for j := range task.Sections {
			l = append(l, &task.Sections[j].At, &task.Sections[j].Res, &task.Sections[j].Len)
		}
	}
	for i := range plan {
		for j := range plan[i] {
			p := &plan[i][j]
			l = append(l, &p.Core, &p.Budget, &p.Deadline, &p.Priority)
		}
	}
	return l
}

// P17.2

// TestRank: by Deadlines, core by core.
func TestRank(t *testing.T) {
	s := fixed(2, 0, task(30, 1), task(10, 1), task(20, 1), task(15, 1), task(5, 1), task(40, 1))
	ranks(t, s, placed(s, 0, 0, 0, 0, 0, 0), []int{5}, []int{2}, []int{4}, []int{3}, []int{1}, []int{6})
	ranks(t, s, placed(s, 0, 1, 0, 1, 0, 1), []int{3}, []int{1}, []int{2}, []int{2}, []int{1}, []int{3})
	ranks(t, s, [][]api.Piece{nil, whole(0, s.Tasks[1]), nil, whole(1, s.Tasks[3]), nil, whole(1, s.Tasks[5])}, nil, []int{1}, nil, []int{1}, nil, []int{2})
	s.Policy = api.Edf
	ranks(t, s, placed(s, 0, 0, 0, 0, 0, 0), []int{0}, []int{0}, []int{0}, []int{0}, []int{0}, []int{0})
}

// TestRankOfEqualDeadlines: by the numbers of the tasks.
func TestRankOfEqualDeadlines(t *testing.T) {
	s := fixed(3, 0, slices.Repeat([]api.Task{task(30, 1)}, api.MaxTasks)...)
	plan, want := make([][]api.Piece, api.MaxTasks), make([][]int, api.MaxTasks)
	for i := range plan {
		plan[i], want[i] = whole(0, s.Tasks[i]), []int{i + 1}
	}
	ranks(t, s, plan, want...)
	for i := range plan {
		plan[i], want[i] = whole(i%3, s.Tasks[i]), []int{i/3 + 1}
	}
	ranks(t, s, plan, want...)
	s.Tasks[20].Deadline = 29
	for i := range plan {
		plan[i], want[i] = whole(0, s.Tasks[i]), []int{i + 2}
		if i >= 20 {
			want[i][0] = i + 1
		}
	}
	want[20][0] = 1
	ranks(t, s, plan, want...)
}

// TestRankOfPieces: by their own Deadlines, not by those of their tasks; Tight ones take no number.
func TestRankOfPieces(t *testing.T) {
	s := late(fixed(3, 0, task(50, 8), task(42, 8), task(60, 30), task(43, 8)), 3)
	plan := [][]api.Piece{
		list(tight(1, 6), last(0, 2, 42)),
		whole(0, s.Tasks[1]),
		list(tight(0, 5), tight(2, 12), last(1, 13, 39)),
		whole(0, s.Tasks[3]),
	}
	ranks(t, s, plan, []int{0, 1}, []int{2}, []int{0, 0, 1}, []int{3})
	plan[2] = list(tight(0, 5), tight(2, 12))
	ranks(t, s, plan, []int{0, 1}, []int{2}, []int{0, 0}, []int{3})
	plan[0] = list(tight(1, 5), last(0, 3, 43))
	ranks(t, s, plan, []int{0, 2}, []int{1}, []int{0, 0}, []int{3})
	s.Policy = api.Edf
	for i := range plan {
		plan[i][0].Priority = 7 // which Rank does not return
	}
	ranked, err := Rank(s, plan)
	for _, l := range ranked {
		for _, p := range l {
			if p.Priority != 0 || err != api.OK {
				t.Errorf("Rank under Edf: %v, %d", ranked, err)
			}
		}
	}
}

// TestCeilings: of resources that nobody, one and several tasks of a core use.
func TestCeilings(t *testing.T) {
	s := fixed(2, 4, task(30, 9, of(0, 0, 1), of(1, 2, 2)), task(10, 1), task(20, 2, of(0, 2, 2)), task(40, 6, of(0, 0, 1), of(3, 0, 1)), task(50, 1, of(0, 2, 1)))
	for _, protocol := range []int{api.Msrp, api.Mrsp} {
		s.Policy, s.Protocol = api.Fixed, protocol
		tops(t, s, placed(s, 0, 0, 0, 0, 0), []int{3, 0, 2, 0}, []int{0, 0, 0, 0})
		tops(t, s, placed(s, 0, 0, 1, 0, 1), []int{2, 0, 2, 0}, []int{0, 0, 1, 0})
		tops(t, s, placed(s, 1, 1, 0, 0, 1), []int{2, 0, 1, 0}, []int{2, 0, 2, 0})
		tops(t, s, [][]api.Piece{nil, whole(0, s.Tasks[1]), nil, whole(0, s.Tasks[3]), nil}, []int{2, 0, 0, 0}, []int{0, 0, 0, 0})
	}
	s.Policy, s.Protocol = api.Edf, api.Msrp
	tops(t, s, placed(s, 0, 0, 0, 0, 0), []int{1, 0, 1, 0}, []int{0, 0, 0, 0})
	tops(t, s, placed(s, 1, 1, 0, 0, 0), []int{1, 0, 1, 0}, []int{1, 0, 1, 0})
	tops(t, s, placed(s, 0, 0, 0, 0, 1), []int{1, 0, 1, 0}, []int{0, 0, 1, 0})
	tops(t, s, make([][]api.Piece, 5), []int{0, 0, 0, 0}, []int{0, 0, 0, 0})
}

// TestCeilingsOfAllCoresAndResources: the only user is found there and nowhere else.
func TestCeilingsOfAllCoresAndResources(t *testing.T) {
	for cores := 1; cores <= 8; cores++ {
		for resources := range 9 {
			for core := range cores {
				for res := range max(resources, 1) {
					want := make([][]int, cores)
					for i := range want {
						want[i] = make([]int, resources)
					}
					s := fixed(cores, resources, task(10, 1), task(20, 5))
					if resources > 0 {
						s.Tasks[1].Sections = []api.Section{of(4, res, 1)}
						want[core][res] = 2
					}
					tops(t, s, placed(s, core, core), want...)
				}
			}
		}
	}
}

// TestCeilingsBesideSplitTasks: whose last pieces have Priorities, too.
func TestCeilingsBesideSplitTasks(t *testing.T) {
	s := fixed(2, 1, task(10, 6), task(20, 5, of(4, 0, 1)), task(21, 5, of(0, 0, 5)))
	plan := [][]api.Piece{list(tight(1, 2), last(0, 4, 8)), whole(0, s.Tasks[1]), whole(0, s.Tasks[2])}
	tops(t, s, plan, []int{2}, []int{0})
	plan[1] = nil
	tops(t, s, plan, []int{2}, []int{0})
	plan[0] = nil
	tops(t, s, plan, []int{1}, []int{0})
}

// P17.3

// TestOwn: each cost alone and all of them, of whole, of Tight and of last pieces.
func TestOwn(t *testing.T) {
	base := late(fixed(3, 1, task(90, 10, of(1, 0, 3)), task(90, 20), task(90, 9, of(0, 0, 5), of(6, 0, 2)), task(90, 7, of(0, 0, 7))), 4)
	plan := [][]api.Piece{whole(0, base.Tasks[0]), list(tight(2, 4), last(1, 16, 83)), whole(1, base.Tasks[2]), nil}
	for _, c := range []struct{ release, change, finish, more int }{{0, 0, 0, 0}, {9, 0, 0, 0}, {0, 1, 0, 2}, {0, 50, 0, 100}, {0, 0, 1, 1}, {0, 0, 50, 50}, {7, 5, 3, 13}} {
		for _, s := range []api.System{base, mrsp(base), edf(3, 1, base.Tasks...)} {
			s = costing(late(s, 4), c.release, c.change, c.finish)
			owns(t, s, plan, 0, 0, 10+6+c.more)
			owns(t, s, plan, 1, 0, 4+c.more)
			owns(t, s, plan, 1, 1, 16+c.more)
			owns(t, s, plan, 2, 0, 9+4+4+c.more)
			spelt(t, s, plan)
		}
	}
	plan[3] = whole(0, base.Tasks[3]) // with the longest section of its core
	owns(t, base, plan, 0, 0, 10+6)
	owns(t, base, plan, 2, 0, 9+8+8)
	owns(t, base, plan, 3, 0, 7+6)
	plan[0] = nil
	owns(t, base, plan, 2, 0, 9+8+8)
	plan[3] = nil
	owns(t, base, plan, 2, 0, 9)
	spelt(t, base, plan)
}

// TestOwnOfNone: numbers of tasks and pieces that are none.
func TestOwnOfNone(t *testing.T) {
	s, plan := mixed()
	for _, n := range append([]int{7, 8, -7}, noNumbers...) {
		for piece := -1; piece < 3; piece++ {
			if got, err := Own(s, plan, n, piece); got != 0 || err != api.ErrArg {
				t.Fatalf("Own(%d, %d) = %d, %d", n, piece, got, err)
			}
		}
		for task := range plan {
			if got, err := Own(s, plan, task, n); got != 0 || err != api.ErrArg {
				t.Fatalf("Own(%d, %d) = %d, %d", task, n, got, err)
			}
		}
		if got, err := Own(s, plan, n, n); got != 0 || err != api.ErrArg {
			t.Fatalf("Own(%d, %d) = %d, %d", n, n, got, err)
		}
	}
	for task, l := range plan {
		for piece := range 10 {
			_, err := Own(s, plan, task, piece)
			if there := piece < len(l); there != (err == api.OK) {
				t.Fatalf("Own(%d, %d): %d", task, piece, err)
			}
		}
	}
}

// TestOwnOfTheGreatest: with all costs, and sections of all cores.
func TestOwnOfTheGreatest(t *testing.T) {
	s := costing(fixed(8, 1), 50, 50, 50)
	for range 24 {
		s.Tasks = append(s.Tasks, task(maxTime, maxTime, of(0, 0, maxTime-3), of(maxTime-3, 0, 1), of(maxTime-2, 0, 1), of(maxTime-1, 0, 1)))
	}
	plan := placed(s, slices.Repeat(upTo(8), 3)...)
	for task := range plan {
		owns(t, s, plan, task, 0, maxTime+150+4*7*(maxTime-2))
	}
	faults(t, s, plan, 0, api.ErrArg)
	s.Policy = api.Edf
	faults(t, s, plan, 0, api.ErrArg)
}

// P17.4

func TestExamplesOfTheChapter(t *testing.T) {
	s := fixed(2, 0, task(10, 3), task(5, 2))
	bounds(t, s, placed(s, 0, 0), 5, 2)
	s = fixed(2, 0, task(10, 8))
	bounds(t, s, [][]api.Piece{list(tight(0, 5), last(1, 3, 5))}, 8)
	s = fixed(2, 0, task(10, 8), task(5, 2))
	faults(t, s, placed(s, 0, 0), 0, api.ErrMiss)
}

// TestBoundsOfAllKinds: of tasks that are not placed, open, whole and split.
func TestBoundsOfAllKinds(t *testing.T) {
	s := late(fixed(3, 0, task(40, 9), api.Task{Period: 40, Deadline: 35, Wcet: 9}, task(40, 9), task(40, 9), task(40, 3)), 6)
	plan := [][]api.Piece{
		nil,
		list(tight(0, 5), last(2, 4, 25)),
		list(tight(1, 8)),
		whole(2, s.Tasks[3]),
		{},
	}
	bounds(t, s, plan, 0, 5+5+4, 0, 13, 0)
	plan[4] = whole(1, s.Tasks[4]) // behind the Tight piece
	bounds(t, s, plan, 0, 14, 0, 13, 11)
	plan[2] = list(tight(1, 3), tight(2, 2), last(0, 4, 25)) // which is behind one, too
	bounds(t, s, plan, 0, 14+2, 5+5+5+5+5+4-10+5, 15, 6)
	s.Policy = api.Edf
	bounds(t, s, plan, 0, 35, 40, 40, 40)
	plan[2] = list(tight(1, 8))
	bounds(t, s, plan, 0, 35, 0, 40, 40)
}

// TestBlockByHold: the longest section of a task that is not before the piece, with its wait; a section of its own counts as well.
func TestBlockByHold(t *testing.T) {
	s := fixed(2, 2, task(100, 10), task(200, 10, of(2, 0, 3), of(6, 1, 2)), task(300, 10, of(0, 1, 5)), task(400, 10), task(250, 4, of(0, 1, 4)))
	plan := placed(s, 0, 0, 0, 0, 1)
	// Of task 1 the sections take 3 and 2 + 5, of task 2 5 + 5; they wait for 5 each in those with resource 1.
	bounds(t, s, plan, 10+10, 15+10+10, 15+10+25, 10+40, 4+6+10)
	plan[2] = nil
	bounds(t, s, plan, 10+7, 15+10+7, 0, 10+25, 4+3+7)
	plan[1] = nil
	bounds(t, s, plan, 10, 0, 0, 20, 8)
	plan[4] = nil
	bounds(t, s, plan, 10, 0, 0, 20, 0)
	plan = placed(s, 0, 0, 0, 0, 0) // nobody waits for those of the same core
	bounds(t, s, plan, 10+5, 10+10+5, 10+10+4+10+5, 44, 4+10+10+5)
}

// TestBlockByOthersOnly: sections of a task before the piece do not count, but the piece of that task has its own.
func TestBlockByOthersOnly(t *testing.T) {
	for _, c := range []struct {
		periods [3]int
		want    [3]int
	}{
		{[3]int{100, 200, 300}, [3]int{10 + 9, 20, 30}},
		{[3]int{200, 100, 300}, [3]int{20 + 9, 10 + 9, 30}},
		{[3]int{300, 200, 100}, [3]int{30 + 9, 20 + 9, 10 + 9}},
		{[3]int{100, 100, 100}, [3]int{10 + 9, 20, 30}},
	} {
		s := fixed(1, 1, task(c.periods[0], 10, of(1, 0, 9)), task(c.periods[1], 10), task(c.periods[2], 10))
		bounds(t, s, placed(s, 0, 0, 0), c.want[:]...)
	}
}

// TestBlockByCosts: twice a Switch and a Finish, for each piece; and Own has costs of its own.
func TestBlockByCosts(t *testing.T) {
	for change := range 4 {
		for finish := range 4 {
			s := costing(fixed(1, 0, task(100, 5), task(200, 7)), 0, change, finish)
			block := 2*change + 2*finish
			first := 5 + finish + 2*change
			second := 7 + finish + 2*change
			bounds(t, s, placed(s, 0, 0), first+block, first+second+block)
			bounds(t, mrsp(s), placed(s, 0, 0), first+block, first+second+block)
		}
	}
}

// TestBlockUnderMrsp: only sections count whose ceiling on the core is not behind the piece.
func TestBlockUnderMrsp(t *testing.T) {
	s := fixed(2, 3, task(100, 10), task(200, 10, of(0, 0, 1)), task(300, 10), task(400, 30, of(0, 0, 7), of(10, 1, 8), of(20, 2, 9)), task(500, 10, of(0, 2, 6)))
	for protocol, want := range map[int][]int{
		// Resource 0 has the ceiling 2, resource 1 the ceiling 4, resource 2 the ceiling 4.
		api.Mrsp: {10, 20 + 7, 30 + 7, 60 + 9, 70 + 6},
		api.Msrp: {10 + 9, 20 + 9, 30 + 9, 60 + 9, 70 + 6},
	} {
		s.Protocol = protocol
		plan := placed(s, 0, 0, 0, 0, 0)
		tops(t, s, plan, []int{2, 4, 4}, []int{0, 0, 0})
		bounds(t, s, plan, want...)
	}
	s.Protocol = api.Mrsp
	s.Tasks[0].Sections = []api.Section{of(9, 2, 1)}
	plan := placed(s, 0, 0, 0, 0, 0)
	tops(t, s, plan, []int{2, 4, 1}, []int{0, 0, 0})
	bounds(t, s, plan, 10+9, 20+9, 30+9, 60+9, 70+6)
	plan = placed(s, 1, 0, 0, 0, 0) // on another core, for which they wait 2 ticks, as it waits 10 for them
	tops(t, s, plan, []int{1, 3, 3}, []int{0, 0, 1})
	bounds(t, s, plan, 20+11, 10+7, 20+7, 20+32+11, 20+32+12+8)
}

// TestFinishOfOthersUnderMrsp: once for each task with sections that is behind the piece.
func TestFinishOfOthersUnderMrsp(t *testing.T) {
	tasks := []api.Task{task(1000, 5), task(2000, 5, of(0, 0, 1)), task(3000, 5), task(4000, 5, of(0, 0, 1)), task(5000, 5, of(4, 0, 1))}
	for finish := range 5 {
		s := costing(mrsp(fixed(2, 1, tasks...)), 0, 0, finish)
		own, block := 5+finish, 2*finish
		plan := placed(s, 0, 0, 0, 0, 0)
		bounds(t, s, plan, own+block+3*finish, 2*own+block+2*finish+1, 3*own+block+2*finish+1, 4*own+block+finish+1, 5*own+block+1)
		plan[3] = nil
		bounds(t, s, plan, own+block+2*finish, 2*own+block+finish+1, 3*own+block+finish+1, 0, 4*own+block+1)
		plan = placed(s, 0, 0, 0, 1, 0)
		bounds(t, s, plan, own+block+2*finish, 2*own+2+block+finish+3, 3*own+2+block+finish+3, own+2+block+3, 4*own+4+block+3)
		s.Protocol = api.Msrp
		plan = placed(s, 0, 0, 0, 0, 0)
		bounds(t, s, plan, own+block+1, 2*own+block+1, 3*own+block+1, 4*own+block+1, 5*own+block+1)
	}
}

// TestRelease: of all pieces of the core, also of those behind; none of other cores.
func TestRelease(t *testing.T) {
	for release := range 4 {
		s := costing(fixed(2, 0, task(100, 5), task(200, 7), task(300, 9)), release, 0, 0)
		bounds(t, s, placed(s, 0, 0, 0), 5+6*release, 12+6*release, 21+6*release)
		bounds(t, s, placed(s, 0, 1, 0), 5+4*release, 7+2*release, 14+4*release)
		plan := [][]api.Piece{whole(0, s.Tasks[0]), nil, list(tight(0, 4), last(1, 5, 296))}
		bounds(t, s, plan, 5+4+4*release, 0, 4+5+2*release)
		plan[2] = list(tight(1, 4), tight(0, 3))
		bounds(t, s, plan, 5+3+4*release, 0, 0)
	}
}

// TestJitter: of a piece before another one, Late for each piece of its task before it; in all as well, but not in its own bound.
func TestJitter(t *testing.T) {
	s := fixed(3, 0, api.Task{Period: 20, Deadline: 20, Wcet: 10}, task(40, 12))
	first := func(latency int) [][]api.Piece {
		return [][]api.Piece{list(tight(1, 3), tight(2, 1), last(0, 6, 16-2*(latency-1))), whole(0, s.Tasks[1])}
	}
	for latency := 1; latency <= 6; latency++ {
		s.Latency = latency
		jitter := 2 * (latency - 1)
		n := 18
		if n+jitter > 20 {
			n = 24 // as it comes twice
		}
		bounds(t, s, first(latency), 4+jitter+6, n)
	}
	s.Tasks[1].Wcet = 8 // 14 ticks with one of 6, to which a second one comes if the first is more than 6 late
	for latency, want := range map[int]int{1: 14, 2: 14, 3: 14, 4: 14, 5: 20} {
		s.Latency = latency
		bounds(t, s, first(latency), 4+2*(latency-1)+6, want)
	}
	s.Release = 1 // by which it takes longer: 14 and 4 releases; then 20 and 5, in which two are of the one that is late
	for latency, want := range map[int]int{1: 18, 2: 18, 3: 25, 4: 25} {
		s.Latency = latency
		got := spelt(t, s, first(latency))
		if got.err != api.OK || got.bounds[1] != want {
			t.Errorf("latency %d: %v, want %d", latency, got, want)
		}
	}
}

// TestTightPieceIsBeforeAll: it is above each other piece of its core, once.
func TestTightPieceIsBeforeAll(t *testing.T) {
	s := costing(fixed(2, 0, task(50, 5), task(60, 6), task(70, 20), task(80, 7)), 0, 0, 1)
	plan := [][]api.Piece{whole(0, s.Tasks[0]), whole(0, s.Tasks[1]), list(tight(0, 12), last(1, 8, 58)), whole(1, s.Tasks[3])}
	bounds(t, s, plan, 6+13+2, 6+7+13+2, 12+9+2, 8+9+2)
	plan[2] = list(tight(0, 12))
	bounds(t, s, plan, 6+13+2, 6+7+13+2, 0, 8+2)
}

// TestBoundAboutTheDeadline: of just the Deadline, and of one more; of whole pieces, and of last ones, which have Deadlines of their own.
func TestBoundAboutTheDeadline(t *testing.T) {
	for deadline := 9; deadline < 13; deadline++ {
		s := fixed(1, 0, api.Task{Period: 40, Deadline: 8, Wcet: deadline - 5}, api.Task{Period: 60, Deadline: deadline, Wcet: 5}, task(70, 3))
		bounds(t, s, placed(s, 0, 0, 0), deadline-5, deadline, deadline+3)
		s.Tasks[0].Wcet++
		faults(t, s, placed(s, 0, 0, 0), 0, api.ErrMiss)
	}
	for deadline := 6; deadline < 40; deadline++ {
		// The last piece takes 3 ticks, and 6 of the other task before it, which can't be behind it.
		s := late(fixed(2, 0, api.Task{Period: 40, Deadline: deadline, Wcet: 5}, api.Task{Period: 2000, Deadline: 6, Wcet: 6}), 4)
		left := deadline - 2 - 3
		plan := [][]api.Piece{list(tight(0, 2), last(1, 3, left)), whole(1, s.Tasks[1])}
		if left < 9 {
			faults(t, s, plan, 1, api.ErrMiss)
		} else {
			bounds(t, s, plan, 2+3+9, 6)
		}
	}
}

// TestEdf: all bounds are the Deadlines; what is tested is the demand of each core.
func TestEdf(t *testing.T) {
	s := edf(2, 0, task(10, 4), task(5, 2), api.Task{Period: 9, Deadline: 8, Wcet: 3})
	bounds(t, s, placed(s, 0, 0, 1), 10, 5, 8)
	bounds(t, s, [][]api.Piece{nil, whole(0, s.Tasks[1]), nil}, 0, 5, 0)
	faults(t, s, placed(s, 0, 0, 0), 0, api.ErrMiss)
	faults(t, s, placed(s, 1, 1, 1), 1, api.ErrMiss)
	for _, c := range []struct{ release, change, finish int }{{1, 0, 0}, {0, 1, 0}, {0, 0, 1}} {
		u := costing(s, c.release, c.change, c.finish)
		faults(t, u, append(placed(u, 1, 1), nil), 1, api.ErrMiss)
	}
}

// TestEdfElements: Own, Period and Deadline of the pieces, and Top of Tight ones; block and release as the chapter says. Each is found where one tick more makes an error.
func TestEdfElements(t *testing.T) {
	for _, c := range []struct {
		name  string
		s     api.System
		plan  func(s api.System) [][]api.Piece
		works []demand.Work
		block int
	}{
		{"whole", edf(1, 0, api.Task{Period: 30, Deadline: 20, Wcet: 6}, task(25, 4)),
			func(s api.System) [][]api.Piece { return placed(s, 0, 0) },
			[]demand.Work{{Work: 6, Period: 30, Deadline: 20}, {Work: 4, Period: 25, Deadline: 25}}, 0},
		{"last beside Tight", late(edf(2, 0, api.Task{Period: 40, Deadline: 30, Wcet: 6}, task(25, 4), task(50, 9)), 5),
			func(s api.System) [][]api.Piece {
				return [][]api.Piece{list(tight(1, 4), last(0, 2, 22)), whole(0, s.Tasks[1]), list(tight(0, 3), last(1, 6, 43))}
			},
			[]demand.Work{{Work: 2, Period: 40, Deadline: 22}, {Work: 4, Period: 25, Deadline: 25}, {Work: 3, Period: 50, Deadline: 3, Top: true}}, 0},
		{"sections", edf(2, 2, task(100, 6, of(0, 0, 2), of(3, 1, 3)), task(90, 5, of(0, 1, 1)), task(80, 9, of(0, 0, 5))),
			func(s api.System) [][]api.Piece { return placed(s, 0, 0, 1) },
			[]demand.Work{{Work: 6 + 6, Period: 100, Deadline: 100}, {Work: 5, Period: 90, Deadline: 90}}, 2 + 6},
	} {
		for release := range 3 {
			for change := range 3 {
				for finish := range 3 {
					s := costing(c.s, release, change, finish)
					works := slices.Clone(c.works)
					for i := range works {
						works[i].Work += 2*change + finish
					}
					for scale := range 60 { // more and more work of task 1
						s, w := plain(s), slices.Clone(works)
						s.Tasks[1].Wcet = min(s.Tasks[1].Wcet+scale, s.Tasks[1].Deadline)
						w[1].Work += s.Tasks[1].Wcet - c.s.Tasks[1].Wcet
						err := demand.Test(w, c.block+2*change+2*finish, release)
						got := spelt(t, s, c.plan(s))
						if got.core == 1 {
							continue
						}
						if got.err != err || err != api.OK && got.core != 0 {
							t.Fatalf("%s: Check(%v) = %v, want %d", c.name, s, got, err)
						}
					}
				}
			}
		}
	}
}

// TestCoresWithoutPieces: they have no error, whatever the costs are.
func TestCoresWithoutPieces(t *testing.T) {
	for _, policy := range []int{api.Fixed, api.Edf} {
		for core := range 8 {
			s := costing(fixed(8, 1, task(9000, 10, of(0, 0, 9)), task(9000, 10)), 50, 50, 50)
			s.Policy = policy
			if got := spelt(t, s, placed(s, core, core)); got.err != api.OK {
				t.Fatal(got)
			}
			bounds(t, s, [][]api.Piece{nil, list(tight(core, 9))}, 0, 0)
			s.Tasks[1].Wcet = 9000
			faults(t, s, placed(s, core, core), core, api.ErrMiss)
			faults(t, s, placed(s, core, (core+1)%8), (core+1)%8, api.ErrMiss)
		}
	}
}

// TestFirstCoreWithAnError: is told, however many others have one.
func TestFirstCoreWithAnError(t *testing.T) {
	for _, policy := range []int{api.Fixed, api.Edf} {
		for set := range 256 {
			s := fixed(8, 0)
			s.Policy = policy
			first := 8
			for i := range 8 {
				core := 7 - i // the order of the tasks does not count
				bad := set >> core & 1
				s.Tasks = append(s.Tasks, task(10, 3), task(10, 2+6*bad))
				if bad == 1 {
					first = core
				}
			}
			plan := placed(s, 7, 7, 6, 6, 5, 5, 4, 4, 3, 3, 2, 2, 1, 1, 0, 0)
			if got := checked(s, plan); got.err == api.OK != (first == 8) || first < 8 && got.core != first {
				t.Fatalf("set %b: %v", set, got)
			}
		}
	}
}

// TestFirstErrorOfACore: is that of the first task, not of the first Priority.
func TestFirstErrorOfACore(t *testing.T) {
	busy, slow, missing := task(10000, 9999), task(maxTime, 10000), task(10001, 2)
	s := fixed(2, 0, busy, slow) // the bound of slow takes more steps than there may be
	faults(t, s, placed(s, 0, 0), 0, api.ErrCap)
	faults(t, s, placed(s, 1, 1), 1, api.ErrCap)
	s.Tasks = []api.Task{busy, missing}
	faults(t, s, placed(s, 0, 0), 0, api.ErrMiss)
	s.Tasks = []api.Task{slow, missing, busy}
	faults(t, s, placed(s, 0, 0, 0), 0, api.ErrCap)
	s.Tasks = []api.Task{missing, slow, busy}
	faults(t, s, placed(s, 0, 0, 0), 0, api.ErrMiss)
	faults(t, s, placed(s, 1, 0, 0), 0, api.ErrCap)
	faults(t, s, placed(s, 0, 1, 1), 1, api.ErrCap)
}

// TestNumbersTooGreatForTheLayers: Bound and Test answer ErrArg where Own is greater than MaxTime, and Check tells it with the core.
func TestNumbersTooGreatForTheLayers(t *testing.T) {
	huge := task(maxTime, maxTime)
	for _, s := range []api.System{fixed(3, 1, huge, task(10, 1)), edf(3, 1, huge, task(10, 1))} {
		s.Finish = 1
		faults(t, s, placed(s, 1, 2), 1, api.ErrArg)
		faults(t, s, placed(s, 2, 1), 2, api.ErrArg)
		faults(t, s, [][]api.Piece{list(tight(1, maxTime-1), last(0, 1, 1)), whole(1, s.Tasks[1])}, 0, api.ErrMiss)
		s.Tasks[0].Wcet, s.Finish, s.Switch = maxTime-1, 0, 1
		faults(t, s, placed(s, 0, 1), 0, api.ErrArg)
	}
	// Under Fixed, nothing is reckoned of a core on which there is only a Tight piece.
	s, plan := costing(fixed(2, 0, huge), 0, 0, 2), [][]api.Piece{list(tight(1, maxTime-1))}
	bounds(t, s, plan, 0)
	s.Policy = api.Edf
	faults(t, s, plan, 1, api.ErrArg)
	s.Finish = 1
	bounds(t, s, plan, 0)
}

// TestBoundThatIsOver: a wait that comes in every tick, before a task with time enough.
func TestBoundThatIsOver(t *testing.T) {
	long := task(maxTime, maxTime/2, of(0, 0, maxTime/2))
	s := fixed(2, 1, task(maxTime, 2), task(1, 1, of(0, 0, 1)), long)
	faults(t, s, placed(s, 0, 0, 1), 0, api.ErrOver)
	s.Tasks[0], s.Tasks[1] = s.Tasks[1], s.Tasks[0]
	faults(t, s, placed(s, 0, 0, 1), 0, api.ErrMiss)
	s.Policy = api.Edf
	faults(t, s, placed(s, 0, 0, 1), 0, api.ErrMiss)
}

// TestTooManySteps: of a busy period under Edf, though the same task misses nothing under Fixed.
func TestTooManySteps(t *testing.T) {
	for _, all := range []api.Task{task(10000, 9999), task(maxTime, maxTime)} {
		s := fixed(2, 0, all, task(100, 9))
		bounds(t, s, placed(s, 0, 1), all.Wcet, 9)
		s.Policy = api.Edf
		faults(t, s, placed(s, 0, 1), 0, api.ErrCap)
		faults(t, s, placed(s, 1, 0), 1, api.ErrCap)
		s.Tasks[0].Wcet = all.Wcet / 2
		bounds(t, s, placed(s, 0, 1), all.Period, 100)
	}
}

// TestPlansInAFixedOrder: of small and of all numbers, right ones and ones with a number changed.
func TestPlansInAFixedOrder(t *testing.T) {
	number := source()
	found := map[api.Errno]int{}
	for i := range 3000 {
		s, plan := drawnSmall(number)
		if i%5 == 0 {
			s, plan = drawn(number)
		}
		if !Right(s, plan) {
			t.Fatalf("Right(%v, %v)", s, plan)
		}
		found[spelt(t, s, plan).err]++
		l := places(&s, plan)
		*l[number(len(l))] += number(5) - 2
		spelt(t, s, plan)
	}
	for _, err := range []api.Errno{api.OK, api.ErrMiss} {
		if found[err] < 300 {
			t.Error(found)
		}
	}
}

// TestArgumentsOfBound: what Check hands on, spelt out for one core.
func TestArgumentsOfBound(t *testing.T) {
	s := costing(late(mrsp(fixed(3, 2,
		task(500, 20, of(2, 0, 3)),
		task(300, 15, of(0, 1, 2)),
		task(200, 10),
		task(400, 30),
		task(600, 25, of(1, 0, 7), of(9, 1, 4)),
		task(700, 5, of(0, 0, 5)),
	)), 4), 1, 2, 3)
	plan := placed(s, 0, 0, 0, 0, 0, 1)
	plan[3] = list(tight(2, 8), last(0, 22, 389))
	work := []int{20 + 6 + 7, 15 + 7, 10 + 7, 22 + 7, 25 + 6 + 7}
	var all []response.Load
	for i, n := range work {
		l := response.Load{Work: n, Period: s.Tasks[i].Period}
		if i == 3 {
			l.Jitter = 3
		}
		all = append(all, l)
	}
	var want []int
	for i, c := range []struct {
		above []int
		block int
		limit int
	}{
		{[]int{1, 2, 3}, 13 + 10 + 3, 500},
		{[]int{2}, 4 + 10 + 6, 300},
		{nil, 10 + 9, 200},
		{[]int{1, 2}, 4 + 10 + 6, 389},
		{[]int{0, 1, 2, 3}, 13 + 10, 600},
	} {
		var above []response.Load
		for _, j := range c.above {
			above = append(above, all[j])
		}
		n, err := response.Bound(work[i], c.block, 1, above, all, c.limit)
		if err != api.OK {
			t.Fatal(i, err)
		}
		want = append(want, n)
	}
	want[3] += 8 + 3
	got := spelt(t, s, plan)
	if got.err != api.OK || !slices.Equal(got.bounds[:5], want) {
		t.Fatalf("Check = %v, want %v", got, want)
	}
}

// P2 to P5

// TestArgumentsAreNotChanged: nor what stands behind the lengths of lists, which is not looked at.
func TestArgumentsAreNotChanged(t *testing.T) {
	whole, pieces := mixed()
	whole.Tasks = append(whole.Tasks, api.Task{Period: -1, Wcet: most})
	whole.Tasks[2].Sections = append(whole.Tasks[2].Sections, of(-1, 99, -1))
	pieces = append(pieces, list(last(9, -1, 0)))
	pieces[0] = append(pieces[0], last(-1, most, least))
	s, plan := plain(whole), copied(pieces)
	u := s
	u.Tasks = slices.Clone(s.Tasks[:7])
	u.Tasks[2].Sections = u.Tasks[2].Sections[:1]
	given := slices.Clone(plan)
	given[0] = given[0][:1]
	for _, policy := range []int{api.Fixed, api.Edf} {
		u.Policy = policy
		if got := spelt(t, u, given[:7]); got.err != api.OK {
			t.Fatal(got)
		}
		refused(t, u, given)
		refused(t, s, given[:7])
	}
	if !deeplyEqual(s, whole, plan, pieces) {
		t.Errorf("arguments were changed: %v, %v, want %v, %v", s, plan, whole, pieces)
	}
}

// scribble writes into all the memory of lists, and returns how long they are with what is spare.
func scribble[E any](lists [][]E, e E) int {
	size := 0
	for _, l := range lists[:cap(lists)] {
		l = l[:cap(l)]
		for i := range l {
			l[i] = e
		}
		size += len(l)
	}
	return size
}

// TestResultsAreNewMemory: whatever is written into one, neither arguments nor other results are changed.
func TestResultsAreNewMemory(t *testing.T) {
	s, plan := mixed()
	u, given := plain(s), copied(plan)
	first, _ := Rank(u, given)
	want := copied(first)
	second, _ := Rank(u, given)
	if scribble(second, api.Piece{Core: 77, Priority: 77}) < 7 || !sameLists(first, want) {
		t.Errorf("results of Rank share memory: %v, want %v", first, want)
	}
	for i := range first {
		one := [][]api.Piece{first[i]}
		before := copied(append(slices.Clone(first[:i]), first[i+1:]...))
		scribble(one, api.Piece{Core: 78})
		if after := append(slices.Clone(first[:i]), first[i+1:]...); !sameLists(before, after) {
			t.Errorf("lists of one result of Rank share memory: %v, want %v", after, before)
		}
	}
	rows, _ := Ceilings(u, given)
	other, _ := Ceilings(u, given)
	for i := range other {
		scribble(other[i:i+1:i+1], 79+i)
	}
	for i, row := range other {
		for _, n := range row {
			if n != 79+i {
				t.Errorf("rows of Ceilings share memory: %v", other)
			}
		}
	}
	tops(t, u, given, rows...)
	bounds, _, _ := Check(u, given)
	again, _, _ := Check(u, given)
	copyOf := slices.Clone(bounds)
	scribble([][]int{again}, 80)
	if !slices.Equal(bounds, copyOf) {
		t.Errorf("results of Check share memory: %v, want %v", bounds, copyOf)
	}
	if !deeplyEqual(s, u, plan, given) {
		t.Errorf("arguments were changed: %v, %v", u, given)
	}
}

// TestListsMayShareMemory: of one plan, as of two tasks that are alike.
func TestListsMayShareMemory(t *testing.T) {
	s := fixed(2, 0, task(20, 5), task(20, 5), task(20, 5))
	l := whole(1, s.Tasks[0])
	plan := [][]api.Piece{l, l, l}
	ranks(t, s, copied(plan), []int{1}, []int{2}, []int{3})
	ranked, _ := Rank(s, plan)
	if ranked[0][0].Priority != 1 || ranked[1][0].Priority != 2 || ranked[2][0].Priority != 3 || l[0].Priority != 0 {
		t.Errorf("%v, %v", ranked, l)
	}
	bounds(t, s, plan, 5, 10, 15)
}

// TestCallsAreApart: what a call answers does not hang on those before it, also if they were given the same memory.
func TestCallsAreApart(t *testing.T) {
	s, plan := mixed()
	want := spelt(t, s, plan)
	for range 3 {
		plan[1][1].Deadline++
		refused(t, s, plan)
		plan[1][1].Deadline--
		s.Tasks[0].Sections[1].Res = 3
		refused(t, s, plan)
		s.Tasks[0].Sections[1].Res = 1
		s.Tasks[6].Wcet, plan[6][0].Budget = 350, 350
		faults(t, s, plan, 2, api.ErrMiss)
		s.Tasks[6].Wcet, plan[6][0].Budget = 12, 12
		if got := spelt(t, s, plan); !got.equal(want) {
			t.Fatalf("Check = %v, and was %v", got, want)
		}
	}
}

// Ways

// sources returns the files of the package that are no tests.
func sources(t *testing.T) map[string]*ast.File {
	t.Helper()
	names, err := filepath.Glob("*.go")
	if err != nil || len(names) == 0 {
		t.Fatal(names, err)
	}
	files := map[string]*ast.File{}
	for _, name := range names {
		if strings.HasSuffix(name, "_test.go") {
			continue
		}
		file, err := parser.ParseFile(token.NewFileSet(), name, nil, 0)
		if err != nil {
			t.Fatal(err)
		}
		files[name] = file
	}
	return files
}

// TestImports: the chapter lets the layer import valid, terms, demand, response and api only, of the project's packages.
func TestImports(t *testing.T) {
	may := []string{"tourbillon/api", "tourbillon/valid", "tourbillon/terms", "tourbillon/demand", "tourbillon/response", "cmp", "iter", "slices"}
	for name, file := range sources(t) {
		for _, i := range file.Imports {
			if !slices.Contains(may, strings.Trim(i.Path.Value, `"`)) {
				t.Errorf("%s imports %s", name, i.Path.Value)
			}
		}
	}
}

// called returns the name of what x calls; "" if it calls nothing that has one.
func called(x ast.Node) string {
	c, ok := x.(*ast.CallExpr)
	if !ok {
		return ""
	}
	switch f := c.Fun.(type) {
	case *ast.Ident:
		return f.Name
	case *ast.SelectorExpr:
		return f.Sel.Name
	}
	return ""
}

// TestPiecesAreVisitedAndFound: what is ranged over are functions, and the keys of a map are arrays of two numbers.
func TestPiecesAreVisitedAndFound(t *testing.T) {
	visits, ranged := map[string]bool{}, map[string]bool{}
	maps := 0
	for _, file := range sources(t) {
		ast.Inspect(file, func(n ast.Node) bool {
			switch x := n.(type) {
			case *ast.FuncDecl:
				ast.Inspect(x, func(n ast.Node) bool {
					visits[x.Name.Name] = visits[x.Name.Name] || n != nil && called(n) == "yield"
					return true
				})
			case *ast.RangeStmt:
				ranged[called(x.X)] = true
			case *ast.MapType:
				if key, ok := x.Key.(*ast.ArrayType); ok {
					if size, ok := key.Len.(*ast.BasicLit); ok && size.Value == "2" {
						maps++
					}
				}
			}
			return true
		})
	}
	over := 0
	for name := range ranged {
		if visits[name] {
			over++
		}
	}
	if over < 1 || maps < 1 {
		t.Errorf("%d functions ranged over, %d maps by arrays of two", over, maps)
	}
}
