package analysis

import (
	"slices"
	"testing"

	"tourbillon/api"
	"tourbillon/cores"
	"tourbillon/ipi"
	"tourbillon/job"
	"tourbillon/locks"
	"tourbillon/ready"
)

// nobody is the task that is tight or firm on a core on which none is.
const nobody = -1

// kernel runs a plan tick by tick, as chapter 21 says, without slots.
type kernel struct {
	s        api.System
	plan     [][]api.Piece // with Priorities
	ceilings [][]int
	now      int
	cores    *cores.Cores
	boxes    *ipi.Boxes
	book     *job.Book
	locks    *locks.Locks
	on       []*state
	piece    []int // of each task, where its job is
	worked   []int // of each task, the tick of its last unit
	ends     func(task, took int)
}

// state is what is kept of a core.
type state struct {
	ready             *ready.Queue
	tight, left, firm int
	arrivals          []int
}

// fine returns r, which comes without an error.
func fine[R any](r R, err api.Errno) R {
	if err != api.OK {
		panic(err)
	}
	return r
}

// boot returns a kernel that tells ends how long each job took.
func boot(s api.System, plan [][]api.Piece, ends func(task, took int)) *kernel {
	k := &kernel{s: s, plan: fine(Rank(s, plan)), ceilings: fine(Ceilings(s, plan)), ends: ends}
	k.cores = fine(cores.New(s.Cores, [3]int{s.Release, s.Switch, s.Finish}))
	k.boxes, k.book, k.locks = fine(ipi.New(s.Cores)), fine(job.New(s.Tasks)), fine(locks.New(s.Resources))
	for range s.Cores {
		k.on = append(k.on, &state{ready: fine(ready.New(s.Policy)), tight: nobody, firm: nobody})
	}
	k.piece, k.worked = make([]int, len(s.Tasks)), slices.Repeat([]int{-1}, len(s.Tasks))
	return k
}

func (k *kernel) tick(order []int, latency int) {
	for task := range k.s.Tasks {
		if k.book.Next(task, k.now) == k.now && k.book.Start(task, k.now) {
			k.piece[task] = 0
			c := k.on[k.at(task).Core]
			c.arrivals = append(c.arrivals, task)
		}
	}
	for _, core := range cores.Order(k.s.Cores, order) {
		k.step(core, k.on[core], latency)
	}
	k.now++
}

// at returns the piece that the job of task is in.
func (k *kernel) at(task int) api.Piece { return k.plan[task][k.piece[task]] }

func (k *kernel) step(core int, c *state, latency int) {
	if c.tight == nobody && c.firm == nobody {
		arrived := c.arrivals
		c.arrivals = nil
		for _, task := range arrived {
			k.take(core, c, task)
		}
		for _, task := range k.boxes.Take(core, k.now) {
			k.piece[task]++
			k.take(core, c, task)
		}
	}
	if c.tight != nobody {
		k.stepTight(c, latency)
		return
	}
	if k.cores.Pay(core) {
		return
	}
	task := c.firm
	if task == nobody {
		task = c.ready.First()
	}
	if task < 0 || k.cores.Load(core, task) && k.cores.Pay(core) {
		return
	}
	k.serve(core, c, task)
}

func (k *kernel) take(core int, c *state, task int) {
	k.cores.Charge(core, cores.Release)
	p := k.at(task)
	if p.Tight {
		c.tight, c.left = task, p.Budget
		k.cores.Charge(core, cores.Switch)
		k.cores.Charge(core, cores.Switch)
		return
	}
	level := p.Priority
	if k.s.Policy == api.Edf {
		level = k.book.State(task).Arrival + k.s.Tasks[task].Deadline
	}
	if err := c.ready.Add(task, level); err != api.OK {
		panic(err)
	}
}

func (k *kernel) stepTight(c *state, latency int) {
	task := c.tight
	k.work(task)
	c.left--
	switch {
	case k.isDone(task):
		c.tight = nobody
		k.over(task)
	case c.left == 0:
		c.tight = nobody
		k.boxes.Send(k.plan[task][k.piece[task]+1].Core, task, k.now, latency)
	}
}

// serve lets core work for task, or wait with it.
func (k *kernel) serve(core int, c *state, task int) {
	if k.locks.Wants(task) < 0 {
		for _, section := range k.s.Tasks[task].Sections {
			if section.At == k.book.State(task).Done {
				k.enter(core, c, task, section.Res)
			}
		}
	}
	res := k.locks.Wants(task)
	if res >= 0 && !k.locks.Has(task) {
		holder := k.locks.Holder(res)
		if k.s.Protocol == api.Mrsp && k.worked[holder] != k.now {
			k.advance(holder)
		}
		return
	}
	if k.worked[task] != k.now {
		k.advance(task)
	}
}

// enter lets task ask for res.
func (k *kernel) enter(core int, c *state, task, res int) {
	k.locks.Ask(res, task)
	if k.s.Protocol == api.Msrp {
		c.firm = task
		return
	}
	c.ready.Raise(task, k.ceilings[core][res])
}

// advance does a unit of the work of a task that is not tight, and what follows from it.
func (k *kernel) advance(task int) {
	k.work(task)
	c := k.on[k.at(task).Core]
	done := k.book.State(task).Done
	for _, section := range k.s.Tasks[task].Sections {
		if k.locks.Has(task) && (done == section.At+section.Len || k.isDone(task)) {
			k.locks.Free(task)
			c.ready.Fall(task)
			if c.firm == task {
				c.firm = nobody
			}
		}
	}
	if k.isDone(task) {
		k.over(task)
	}
}

func (k *kernel) work(task int) {
	if !k.book.Work(task, k.now) {
		panic("two units of one task in one tick, or more than its demand")
	}
	k.worked[task] = k.now
}

func (k *kernel) isDone(task int) bool {
	s := k.book.State(task)
	return s.Done == s.Demand
}

func (k *kernel) over(task int) {
	core := k.at(task).Core
	k.on[core].ready.Remove(task)
	k.cores.Charge(core, cores.Finish)
	took := k.now + 1 - k.book.State(task).Arrival
	k.book.Over(task)
	k.ends(task, took)
}

// script is an admissible one: when which task comes, with how much work.
type script struct {
	offset, gap []int
	demand      func(task int) int
	order       func() []int
	latency     func() int
}

// run runs a plan for so many ticks, and returns how long the jobs of each task took at most, with those that are not over at the end.
func run(s api.System, plan [][]api.Piece, x script, ticks int) []int {
	worst := make([]int, len(s.Tasks))
	k := boot(s, plan, func(task, took int) { worst[task] = max(worst[task], took) })
	next := slices.Clone(x.offset)
	for range ticks {
		for task := range s.Tasks {
			if next[task] == k.now && len(plan[task]) > 0 {
				k.book.Ask(task, x.demand(task))
				next[task] += s.Tasks[task].Period + x.gap[task]
			}
		}
		k.tick(x.order(), x.latency())
	}
	for task := range s.Tasks {
		if state := k.book.State(task); state.Active {
			worst[task] = max(worst[task], k.now-state.Arrival)
		}
	}
	return worst
}

// full returns the script in which all tasks come at once, as often as they may, with all their work.
func full(s api.System) script {
	zeros := make([]int, len(s.Tasks))
	return script{zeros, zeros, func(task int) int { return s.Tasks[task].Wcet }, func() []int { return nil }, func() int { return s.Latency }}
}

// drawnScript returns a script in which anything may differ from the full one.
func drawnScript(number func(n int) int, s api.System) script {
	x := full(s)
	x.offset, x.gap = make([]int, len(s.Tasks)), make([]int, len(s.Tasks))
	little := 1 + number(5)
	for i, t := range s.Tasks {
		x.offset[i] = number(t.Period + 5)
		x.gap[i] = max(0, number(6)-4)
	}
	x.demand = func(task int) int {
		if number(little) > 0 {
			return s.Tasks[task].Wcet
		}
		return 1 + number(s.Tasks[task].Wcet)
	}
	orders := [][]int{{1, 0}, {2, 0, 1}, {0, 2, 1}, {2, 1, 0}, nil}
	fixed := number(2) * number(6)
	x.order = func() []int {
		if fixed > 0 {
			return orders[fixed-1]
		}
		return orders[number(5)]
	}
	if number(2) > 0 {
		x.latency = func() int { return 1 + number(s.Latency) }
	}
	return x
}

// TestWhatIsAcceptedMeetsItsDeadlines: plans for which Check returns OK, as near to those for which it does not as they may be, are run tick by tick.
func TestWhatIsAcceptedMeetsItsDeadlines(t *testing.T) {
	number := source()
	found := map[string]int{}
	for range 2500 {
		s, plan := drawnSmall(number)
		s, plan, bounds := tightened(number, s, plan)
		if bounds == nil {
			continue
		}
		for i := range 6 {
			x := full(s)
			if i > 0 {
				x = drawnScript(number, s)
			}
			for task, took := range run(s, plan, x, 400) {
				if took > bounds[task] || took > s.Tasks[task].Deadline {
					t.Fatalf("%v, %v: a job of task %d takes %d ticks, and its bound is %d", s, plan, task, took, bounds[task])
				}
				if took == bounds[task] && took > s.Tasks[task].Wcet {
					found["takes all of its bound"]++
				}
			}
		}
		for _, kind := range kinds(s, plan) {
			found[kind]++
		}
	}
	for _, kind := range []string{"Fixed Msrp split", "Fixed Mrsp split", "Edf Msrp split", "Fixed Msrp shared", "Fixed Mrsp shared", "Edf Msrp shared", "takes all of its bound"} {
		if found[kind] < 30 {
			t.Errorf("too few: %q of %v", kind, found)
		}
	}
}

// kinds returns what a plan has that Check has to reckon with.
func kinds(s api.System, plan [][]api.Piece) []string {
	name := map[int]string{api.Fixed: "Fixed ", api.Edf: "Edf "}[s.Policy] + map[int]string{api.Msrp: "Msrp ", api.Mrsp: "Mrsp "}[s.Protocol]
	var found []string
	if slices.ContainsFunc(plan, func(l []api.Piece) bool { return len(l) > 1 }) {
		found = append(found, name+"split")
	}
	for i, t := range s.Tasks {
		if len(t.Sections) > 0 && len(plan[i]) > 0 && fine(Own(s, plan, i, 0)) > t.Wcet+s.Finish+2*s.Switch {
			return append(found, name+"shared")
		}
	}
	return found
}

// tightened returns a system like s, with more work or shorter deadlines, for which Check just still returns OK; no bounds if it does not for s.
func tightened(number func(n int) int, s api.System, plan [][]api.Piece) (api.System, [][]api.Piece, []int) {
	bounds, _, err := Check(s, plan)
	if err != api.OK {
		return s, plan, nil
	}
	for range 40 {
		task := number(len(s.Tasks))
		if len(plan[task]) == 0 {
			continue
		}
		more, other := plain(s), copied(plan)
		p := &other[task][len(plan[task])-1]
		if number(2) == 0 {
			more.Tasks[task].Wcet++
			p.Budget++
		} else {
			more.Tasks[task].Deadline--
			p.Deadline--
			if number(2) == 0 {
				more.Tasks[task].Period = more.Tasks[task].Deadline
			}
		}
		if b, _, err := Check(more, other); err == api.OK {
			s, plan, bounds = more, other, b
		}
	}
	return s, plan, bounds
}
