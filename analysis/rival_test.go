package analysis

import (
	"math/big"
	"reflect"
	"slices"
	"testing"

	"tourbillon/api"
	"tourbillon/demand"
	"tourbillon/response"
	"tourbillon/valid"
)

// rival is the chapter in other words: nothing is kept, and all is looked for among all pieces again and again.
type rival struct {
	s    api.System
	plan [][]api.Piece
}

func number(n int) *big.Int { return big.NewInt(int64(n)) }

func (v rival) right() bool {
	if !valid.Right(v.s) || len(v.plan) != len(v.s.Tasks) {
		return false
	}
	for task, list := range v.plan {
		if !v.rightList(v.s.Tasks[task], list) {
			return false
		}
	}
	for task, list := range v.plan {
		for other, others := range v.plan {
			for _, p := range list {
				for _, o := range others {
					if task != other && p.Core == o.Core && p.Tight && (o.Tight || len(v.s.Tasks[other].Sections) > 0) {
						return false
					}
				}
			}
		}
	}
	return true
}

func (v rival) rightList(t api.Task, list []api.Piece) bool {
	if len(list) == 0 {
		return true
	}
	if len(list) >= 9 {
		return false
	}
	cores, sum := map[int]bool{}, number(0)
	for _, p := range list {
		if p.Core < 0 || p.Core >= v.s.Cores || cores[p.Core] || p.Budget <= 0 {
			return false
		}
		if p.Tight && (p.Deadline != p.Budget || len(t.Sections) > 0) {
			return false
		}
		cores[p.Core] = true
		sum.Add(sum, number(p.Budget))
	}
	before, end := list[:len(list)-1], list[len(list)-1]
	for _, p := range before {
		if !p.Tight {
			return false
		}
	}
	if end.Tight {
		return sum.Cmp(number(t.Wcet)) < 0
	}
	left := number(t.Deadline)
	for _, p := range before {
		left.Sub(left, number(p.Budget)).Sub(left, number(v.s.Latency-1))
	}
	return sum.Cmp(number(t.Wcet)) == 0 && left.Cmp(number(end.Deadline)) == 0 && left.Sign() > 0
}

// on returns the pieces on core, as numbers of a task and of a piece, in the order of the tasks.
func (v rival) on(core int) [][2]int {
	var l [][2]int
	for task, list := range v.plan {
		for at, p := range list {
			if p.Core == core {
				l = append(l, [2]int{task, at})
			}
		}
	}
	return l
}

func (v rival) piece(i [2]int) api.Piece { return v.plan[i[0]][i[1]] }

// priority counts those that go before.
func (v rival) priority(i [2]int) int {
	p := v.piece(i)
	if v.s.Policy == api.Edf || p.Tight {
		return 0
	}
	n := 1
	for _, j := range v.on(p.Core) {
		o := v.piece(j)
		if !o.Tight && (o.Deadline < p.Deadline || o.Deadline == p.Deadline && j[0] < i[0]) {
			n++
		}
	}
	return n
}

func (v rival) rank() ([][]api.Piece, api.Errno) {
	if !v.right() {
		return nil, api.ErrArg
	}
	var ranked [][]api.Piece
	for task, list := range v.plan {
		var l []api.Piece
		for at, p := range list {
			p.Priority = v.priority([2]int{task, at})
			l = append(l, p)
		}
		ranked = append(ranked, l)
	}
	return ranked, api.OK
}

// users returns the whole pieces on core of tasks that have a section with res.
func (v rival) users(core, res int) [][2]int {
	var l [][2]int
	for _, i := range v.on(core) {
		uses := func(c api.Section) bool { return c.Res == res }
		if v.whole(i[0]) && slices.ContainsFunc(v.s.Tasks[i[0]].Sections, uses) {
			l = append(l, i)
		}
	}
	return l
}

func (v rival) whole(task int) bool { return len(v.plan[task]) == 1 && !v.plan[task][0].Tight }

func (v rival) ceiling(core, res int) int {
	top := 0
	for _, i := range v.users(core, res) {
		n := v.priority(i)
		if v.s.Policy == api.Edf {
			n = 1
		}
		if top == 0 || n < top {
			top = n
		}
	}
	return top
}

func (v rival) ceilings() ([][]int, api.Errno) {
	if !v.right() {
		return nil, api.ErrArg
	}
	var rows [][]int
	for core := range v.s.Cores {
		var row []int
		for res := range v.s.Resources {
			row = append(row, v.ceiling(core, res))
		}
		rows = append(rows, row)
	}
	return rows, api.OK
}

// wait is for one section with res of each core but that one.
func (v rival) wait(core, res int) int {
	n := 0
	for other := range v.s.Cores {
		longest := 0
		for _, i := range v.users(other, res) {
			for _, c := range v.s.Tasks[i[0]].Sections {
				if c.Res == res {
					longest = max(longest, c.Len)
				}
			}
		}
		if other != core && longest > 0 {
			n += longest + 1
		}
	}
	return n
}

func (v rival) cost(i [2]int) int {
	p := v.piece(i)
	n := p.Budget + v.s.Finish + v.s.Switch + v.s.Switch
	for _, c := range v.s.Tasks[i[0]].Sections {
		n += v.wait(p.Core, c.Res)
	}
	return n
}

func (v rival) own(task, piece int) (int, api.Errno) {
	if !v.right() {
		return 0, api.ErrArg
	}
	for core := range v.s.Cores {
		if slices.Contains(v.on(core), [2]int{task, piece}) {
			return v.cost([2]int{task, piece}), api.OK
		}
	}
	return 0, api.ErrArg
}

// longest returns the longest Hold on core of sections of such Priority and ceiling.
func (v rival) longest(core int, counts func(priority, ceiling int) bool) int {
	n := 0
	for _, i := range v.on(core) {
		for _, c := range v.s.Tasks[i[0]].Sections {
			if counts(v.priority(i), v.ceiling(core, c.Res)) {
				n = max(n, v.wait(core, c.Res)+c.Len)
			}
		}
	}
	return n
}

func (v rival) block(i [2]int) int {
	core, own := v.piece(i).Core, v.priority(i)
	costs := v.s.Finish + v.s.Finish + v.s.Switch + v.s.Switch
	if v.s.Protocol == api.Msrp {
		return costs + v.longest(core, func(priority, _ int) bool { return priority >= own })
	}
	for _, j := range v.on(core) {
		if v.priority(j) > own && len(v.s.Tasks[j[0]].Sections) > 0 {
			costs += v.s.Finish
		}
	}
	return costs + v.longest(core, func(priority, ceiling int) bool { return priority >= own && ceiling <= own })
}

func (v rival) load(i [2]int) response.Load {
	late := 0
	for range i[1] {
		late += v.s.Latency - 1
	}
	return response.Load{Work: v.cost(i), Period: v.s.Tasks[i[0]].Period, Jitter: late}
}

// bound returns the bound of the task of a piece that is not Tight.
func (v rival) bound(i [2]int) (int, api.Errno) {
	p := v.piece(i)
	var above, all []response.Load
	for _, j := range v.on(p.Core) {
		all = append(all, v.load(j))
		if v.piece(j).Tight || v.priority(j) < v.priority(i) {
			above = append(above, v.load(j))
		}
	}
	slices.Reverse(above)
	slices.Reverse(all)
	n, err := response.Bound(v.cost(i), v.block(i), v.s.Release, above, all, p.Deadline)
	for _, o := range v.plan[i[0]][:i[1]] {
		n += o.Budget + v.s.Latency - 1
	}
	return n, err
}

func (v rival) edf(core int) api.Errno {
	var works []demand.Work
	for _, i := range v.on(core) {
		p := v.piece(i)
		works = append(works, demand.Work{Work: v.cost(i), Period: v.s.Tasks[i[0]].Period, Deadline: p.Deadline, Top: p.Tight})
	}
	if len(works) == 0 {
		return api.OK
	}
	slices.Reverse(works)
	every := func(_, _ int) bool { return true }
	return demand.Test(works, 2*v.s.Finish+2*v.s.Switch+v.longest(core, every), v.s.Release)
}

func (v rival) check() outcome {
	if !v.right() {
		return outcome{nil, -1, api.ErrArg}
	}
	bounds := make([]int, len(v.plan))
	for core := range v.s.Cores {
		if v.s.Policy == api.Edf {
			if err := v.edf(core); err != api.OK {
				return outcome{nil, core, err}
			}
		}
		for _, i := range v.on(core) {
			if v.piece(i).Tight {
				continue
			}
			bounds[i[0]] = v.s.Tasks[i[0]].Deadline
			if v.s.Policy == api.Fixed {
				n, err := v.bound(i)
				if err != api.OK {
					return outcome{nil, core, err}
				}
				bounds[i[0]] = n
			}
		}
	}
	return outcome{bounds, -1, api.OK}
}

// outcome is what Check returns.
type outcome struct {
	bounds []int
	core   int
	err    api.Errno
}

func (o outcome) equal(p outcome) bool {
	return slices.Equal(o.bounds, p.bounds) && o.core == p.core && o.err == p.err
}

func checked(s api.System, plan [][]api.Piece) outcome {
	bounds, core, err := Check(s, plan)
	return outcome{bounds, core, err}
}

// sameLists reports whether a and b are as many lists of the same elements, empty ones being nil or not.
func sameLists[E comparable](a, b [][]E) bool {
	return slices.EqualFunc(a, b, func(a, b []E) bool { return slices.Equal(a, b) })
}

// spelt holds all that the calls answer about a plan against the rival, also about some pieces that are none; it returns what Check answered.
func spelt(t *testing.T, s api.System, plan [][]api.Piece) outcome {
	t.Helper()
	v := rival{s, plan}
	right := v.right()
	if got := Right(s, plan); got != right {
		t.Fatalf("Right(%v, %v) = %v, want %v", s, plan, got, right)
	}
	ranked, err := Rank(s, plan)
	if want, fault := v.rank(); !sameLists(ranked, want) || err != fault {
		t.Fatalf("Rank(%v, %v) = %v, %d, want %v, %d", s, plan, ranked, err, want, fault)
	}
	rows, err := Ceilings(s, plan)
	if want, fault := v.ceilings(); !sameLists(rows, want) || err != fault {
		t.Fatalf("Ceilings(%v, %v) = %v, %d, want %v, %d", s, plan, rows, err, want, fault)
	}
	for task := -1; task <= min(len(plan), 25); task++ {
		for piece := -1; piece < 10 && right || piece < 1; piece++ {
			n, err := Own(s, plan, task, piece)
			if want, fault := v.own(task, piece); n != want || err != fault {
				t.Fatalf("Own(%v, %v, %d, %d) = %d, %d, want %d, %d", s, plan, task, piece, n, err, want, fault)
			}
		}
	}
	got, want := checked(s, plan), v.check()
	if !got.equal(want) {
		t.Fatalf("Check(%v, %v) = %v, want %v", s, plan, got, want)
	}
	return got
}

// refused holds that all calls refuse a plan.
func refused(t *testing.T, s api.System, plan [][]api.Piece) {
	t.Helper()
	if Right(s, plan) {
		t.Fatalf("Right(%v, %v)", s, plan)
	}
	if l, err := Rank(s, plan); len(l) != 0 || err != api.ErrArg {
		t.Fatalf("Rank(%v, %v) = %v, %d", s, plan, l, err)
	}
	if l, err := Ceilings(s, plan); len(l) != 0 || err != api.ErrArg {
		t.Fatalf("Ceilings(%v, %v) = %v, %d", s, plan, l, err)
	}
	if n, err := Own(s, plan, 0, 0); n != 0 || err != api.ErrArg {
		t.Fatalf("Own(%v, %v, 0, 0) = %d, %d", s, plan, n, err)
	}
	if got := checked(s, plan); !got.equal(outcome{nil, -1, api.ErrArg}) {
		t.Fatalf("Check(%v, %v) = %v", s, plan, got)
	}
}

// copied returns a plan that shares nothing with plan.
func copied(plan [][]api.Piece) [][]api.Piece {
	plan = slices.Clone(plan)
	for i := range plan {
		plan[i] = slices.Clone(plan[i])
	}
	return plan
}

// plain returns a copy of s that shares nothing with s.
func plain(s api.System) api.System {
	s.Tasks = slices.Clone(s.Tasks)
	for i := range s.Tasks {
		s.Tasks[i].Sections = slices.Clone(s.Tasks[i].Sections)
	}
	return s
}

func deeplyEqual(s, u api.System, plan, other [][]api.Piece) bool {
	return reflect.DeepEqual(s, u) && reflect.DeepEqual(plan, other)
}

// upTo returns the numbers from 0 to n - 1.
func upTo(n int) []int {
	l := make([]int, n)
	for i := range l {
		l[i] = i
	}
	return l
}
