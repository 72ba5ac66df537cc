package cores

import (
	"go/ast"
	"go/parser"
	"go/token"
	"path/filepath"
	"slices"
	"strings"
	"testing"

	"tourbillon/api"
)

const (
	most  = 1<<63 - 1
	least = -1 << 63
)

// extremes are no counts of cores, no cores, no operations and no costs, but may be tasks. Some of them have the lower bits of one.
var extremes = []int{most, most - 1, least, least + 1, least + 2, 1 << 8, 1<<8 + 1, 1 << 31, -1 << 31, 1 << 32, 1<<32 + 1, -1<<32 + 1, 1 << 62, 1<<62 + 2}

// noCosts are numbers that are no costs.
var noCosts = append([]int{-1, -2, -api.MaxCost, api.MaxCost + 1, 2 * api.MaxCost, 1<<8 + 3}, extremes...)

// noOperations are numbers that are none.
var noOperations = append([]int{0, -1, -2, -3, 4, 5, 64, 65}, extremes...)

// noCores returns numbers that are none of n cores.
func noCores(n int) []int {
	return append([]int{-1, -2, -n, -n - 1, n, n + 1, 2 * n, 63, 64, 65, 128}, extremes...)
}

// made returns n cores with these costs.
func made(t *testing.T, n int, costs [3]int) *Cores {
	t.Helper()
	c, err := New(n, costs)
	if err != api.OK || c == nil {
		t.Fatalf("New(%d, %v) = %v, %d", n, costs, c, err)
	}
	return c
}

// refused holds what New returns for wrong arguments against what the chapter says.
func refused(t *testing.T, n int, costs [3]int) {
	t.Helper()
	if c, err := New(n, costs); c != nil || err != api.ErrArg {
		t.Errorf("New(%d, %v) = %v, %d", n, costs, c, err)
	}
}

// number holds an answer against the one that is wanted.
func number(t *testing.T, name string, got, want int) {
	t.Helper()
	if got != want {
		t.Errorf("%s = %d, want %d", name, got, want)
	}
}

// is holds an answer against the one that is wanted.
func is(t *testing.T, name string, got, want bool) {
	t.Helper()
	if got != want {
		t.Errorf("%s = %v, want %v", name, got, want)
	}
}

// owes holds what every core owes against what is wanted.
func owes(t *testing.T, c *Cores, want ...int) {
	t.Helper()
	number(t, "Many", c.Many(), len(want))
	for core, n := range want {
		if got := c.Owes(core); got != n {
			t.Errorf("Owes(%d) = %d, want %d", core, got, n)
		}
	}
}

// lasts holds the last task of every core against what is wanted.
func lasts(t *testing.T, c *Cores, want ...int) {
	t.Helper()
	number(t, "Many", c.Many(), len(want))
	for core, task := range want {
		if got := c.Last(core); got != task {
			t.Errorf("Last(%d) = %d, want %d", core, got, task)
		}
	}
}

// steps holds the steps of every core, with one more, against what is wanted.
func steps(t *testing.T, c *Cores, want ...int) {
	t.Helper()
	for core, n := range want {
		if got := c.Step(core); got != n {
			t.Errorf("Step(%d) = %d, want %d", core, got, n)
		}
	}
}

// all returns a list of n times the number x.
func all(n, x int) []int { return slices.Repeat([]int{x}, n) }

// upTo returns the numbers from 0 to n - 1.
func upTo(n int) []int {
	l := make([]int, n)
	for i := range l {
		l[i] = i
	}
	return l
}

// source returns a function that returns a number less than n, in a fixed order.
func source() func(n int) int {
	state := uint64(1)
	return func(n int) int {
		state = state*6364136223846793005 + 1442695040888963407
		return int(state >> 33 % uint64(n))
	}
}

// plain is another spelling of the cores: maps with nothing for what has not happened yet.
type plain struct {
	n                 int
	costs             [3]int
	owed, last, steps map[int]int
}

func plainOf(n int, costs [3]int) *plain {
	return &plain{n, costs, map[int]int{}, map[int]int{}, map[int]int{}}
}

func (p *plain) charge(core, op int) bool {
	if core < 0 || core >= p.n {
		return false
	}
	switch op {
	case 1, 2, 3:
		p.owed[core] += p.costs[op-1]
		return true
	}
	return false
}

func (p *plain) pay(core int) bool {
	if p.owed[core] < 1 {
		return false
	}
	p.owed[core]--
	return true
}

func (p *plain) lastOf(core int) int {
	if task, ok := p.last[core]; ok {
		return task
	}
	return -1
}

func (p *plain) load(core, task int) bool {
	if core < 0 || core >= p.n || p.lastOf(core) == task {
		return false
	}
	p.last[core] = task
	return p.charge(core, 2)
}

func (p *plain) step(core int) int {
	if core < 0 || core >= p.n {
		return 0
	}
	p.steps[core]++
	return p.steps[core]
}

// call is one of the calls that change something; with is the operation or the task.
type call struct {
	name       string
	core, with int
}

// does makes the call on both, and tells whether they answer the same.
func (a call) does(c *Cores, p *plain) bool {
	switch a.name {
	case "Charge":
		return c.Charge(a.core, a.with) == p.charge(a.core, a.with)
	case "Pay":
		return c.Pay(a.core) == p.pay(a.core)
	case "Load":
		return c.Load(a.core, a.with) == p.load(a.core, a.with)
	}
	return c.Step(a.core) == p.step(a.core)
}

// sees tells whether what can be asked of some numbers, cores and none, is the same.
func sees(c *Cores, p *plain) bool {
	if c.Many() != p.n {
		return false
	}
	for core := -1; core <= p.n; core++ {
		if c.Owes(core) != p.owed[core] || c.Last(core) != p.lastOf(core) {
			return false
		}
	}
	return true
}

// runs makes the calls on new cores and on their other spelling, and holds them against each other behind each call.
func runs(t *testing.T, n int, costs [3]int, calls []call) {
	t.Helper()
	c, p := made(t, n, costs), plainOf(n, costs)
	for i, a := range calls {
		if !a.does(c, p) || !sees(c, p) {
			t.Fatalf("%d cores, costs %v, calls %v: %v, want %v", n, costs, calls[:i+1], c, p)
		}
	}
	for core := range n {
		if c.Step(core) != p.step(core) {
			t.Fatalf("%d cores, calls %v: another number of steps", n, calls)
		}
	}
}

// P9.1

func TestExamplesOfTheChapter(t *testing.T) {
	c := made(t, 2, [3]int{3, 1, 0})
	is(t, "Charge", c.Charge(0, Release), true)
	is(t, "Load", c.Load(0, 7), true)
	is(t, "Load again", c.Load(0, 7), false)
	number(t, "Owes", c.Owes(0), 4)
	is(t, "Pay", c.Pay(0), true)
	number(t, "Owes behind Pay", c.Owes(0), 3)
	ordered(t, 4, []int{2, 9, 2, 0}, 2, 0, 1, 3)
}

// TestOperations: their numbers have no type of their own.
func TestOperations(t *testing.T) {
	const r, s, f uint8 = Release, Switch, Finish
	if r != 1 || s != 2 || f != 3 {
		t.Errorf("Release %d, Switch %d, Finish %d", r, s, f)
	}
}

func TestNewHowMany(t *testing.T) {
	for n := 1; n <= api.MaxCores; n++ {
		for _, costs := range [][3]int{{}, {3, 1, 0}, {api.MaxCost, api.MaxCost, api.MaxCost}} {
			c := made(t, n, costs)
			number(t, "Many", c.Many(), n)
			owes(t, c, all(n, 0)...)
			lasts(t, c, all(n, -1)...)
			for core := range n {
				is(t, "Pay of a new core", c.Pay(core), false)
			}
			owes(t, c, all(n, 0)...)
			steps(t, c, all(n, 1)...)
		}
	}
	for _, n := range append([]int{0, -1, -2, -api.MaxCores, api.MaxCores + 1, 16, 64}, extremes...) {
		refused(t, n, [3]int{})
		refused(t, n, [3]int{1, 2, 3})
		refused(t, n, [3]int{api.MaxCost, api.MaxCost, api.MaxCost})
		refused(t, n, [3]int{-1, 2, 3})
		refused(t, n, [3]int{1, 2, api.MaxCost + 1})
	}
}

func TestNewEveryCost(t *testing.T) {
	for place := range 3 {
		for _, others := range []int{0, 1, api.MaxCost} {
			for cost := range api.MaxCost + 1 {
				costs := [3]int{others, others, others}
				costs[place] = cost
				c := made(t, 1, costs)
				for i, op := range []int{Release, Switch, Finish} {
					before := c.Owes(0)
					is(t, "Charge", c.Charge(0, op), true)
					number(t, "the cost", c.Owes(0)-before, costs[i])
				}
			}
			for _, cost := range noCosts {
				costs := [3]int{others, others, others}
				costs[place] = cost
				refused(t, 1, costs)
				refused(t, api.MaxCores, costs)
				refused(t, 0, costs)
			}
		}
	}
	// Wrong costs are no better if they make up for each other.
	for _, costs := range [][3]int{{-1, 1, 0}, {51, -1, 0}, {-50, 100, -50}, {most, 1, least}, {least, least, 0}, {most, most, 2}, {51, 51, 51}, {-1, -1, -1}, {most, most, most}, {least, least, least}} {
		refused(t, 2, costs)
	}
}

func TestCharge(t *testing.T) {
	c := made(t, 3, [3]int{3, 1, 7})
	is(t, "Charge", c.Charge(0, Release), true)
	owes(t, c, 3, 0, 0)
	is(t, "Charge", c.Charge(2, Switch), true)
	owes(t, c, 3, 0, 1)
	is(t, "Charge", c.Charge(2, Finish), true)
	owes(t, c, 3, 0, 8)
	is(t, "Charge", c.Charge(1, Finish), true)
	is(t, "Charge", c.Charge(1, Finish), true)
	owes(t, c, 3, 14, 8)
	lasts(t, c, -1, -1, -1)
	steps(t, c, 1, 1, 1)
	owes(t, c, 3, 14, 8)
}

// TestEveryCoreAndOperation: a charge changes what one core owes, by the cost of one operation.
func TestEveryCoreAndOperation(t *testing.T) {
	costs := [3]int{5, 11, 50}
	for n := 1; n <= api.MaxCores; n++ {
		for core := range n {
			for i, op := range []int{Release, Switch, Finish} {
				c := made(t, n, costs)
				is(t, "Charge", c.Charge(core, op), true)
				want := all(n, 0)
				want[core] = costs[i]
				owes(t, c, want...)
			}
		}
	}
}

func TestChargeWrong(t *testing.T) {
	for n := 1; n <= api.MaxCores; n++ {
		c := made(t, n, [3]int{3, 1, 7})
		is(t, "Charge", c.Charge(n-1, Release), true)
		want := all(n, 0)
		want[n-1] = 3
		for _, core := range noCores(n) {
			for _, op := range append([]int{Release, Switch, Finish}, noOperations...) {
				if c.Charge(core, op) {
					t.Errorf("%d cores: Charge(%d, %d) = true", n, core, op)
				}
			}
		}
		for _, op := range noOperations {
			for core := range n {
				if c.Charge(core, op) {
					t.Errorf("%d cores: Charge(%d, %d) = true", n, core, op)
				}
			}
		}
		owes(t, c, want...)
		lasts(t, c, all(n, -1)...)
	}
}

func TestChargeWithoutCost(t *testing.T) {
	c := made(t, 2, [3]int{})
	for _, op := range []int{Release, Switch, Finish} {
		is(t, "Charge without a cost", c.Charge(1, op), true)
		is(t, "Pay of nothing", c.Pay(1), false)
	}
	owes(t, c, 0, 0)
	c = made(t, 2, [3]int{0, 2, 0})
	c.Charge(1, Release)
	c.Charge(1, Finish)
	is(t, "Pay of nothing", c.Pay(1), false)
	c.Charge(1, Switch)
	owes(t, c, 0, 2)
}

func TestPay(t *testing.T) {
	c := made(t, 2, [3]int{3, 50, 1})
	for _, op := range []int{Release, Switch, Finish, Release} {
		c.Charge(1, Finish)
		is(t, "Charge", c.Charge(0, op), true)
		for left := c.Owes(0) - 1; left >= 0; left-- {
			is(t, "Pay", c.Pay(0), true)
			number(t, "Owes", c.Owes(0), left)
		}
		for range 3 {
			is(t, "Pay of nothing", c.Pay(0), false)
			number(t, "Owes", c.Owes(0), 0)
		}
	}
	owes(t, c, 0, 4)
	is(t, "Pay", c.Pay(1), true)
	is(t, "Charge between payments", c.Charge(1, Release), true)
	owes(t, c, 0, 6)
	lasts(t, c, -1, -1)
	steps(t, c, 1, 1)
}

// TestOwesAndPayOfNoCore: they find nothing, whatever the cores owe, and change nothing.
func TestOwesAndPayOfNoCore(t *testing.T) {
	for n := 1; n <= api.MaxCores; n++ {
		c := made(t, n, [3]int{50, 50, 50})
		for core := range n {
			c.Charge(core, Release)
		}
		for _, core := range noCores(n) {
			if got := c.Owes(core); got != 0 {
				t.Errorf("%d cores: Owes(%d) = %d", n, core, got)
			}
			if c.Pay(core) {
				t.Errorf("%d cores: Pay(%d) = true", n, core)
			}
		}
		owes(t, c, all(n, 50)...)
	}
}

// TestNoBoundOnDebts: a core may owe more than one operation costs, and more than a byte or two hold.
func TestNoBoundOnDebts(t *testing.T) {
	c := made(t, api.MaxCores, [3]int{api.MaxCost, api.MaxCost, api.MaxCost})
	const times = 100000
	last := api.MaxCores - 1
	for i := range times {
		if !c.Charge(last, 1+i%3) {
			t.Fatal(i)
		}
	}
	number(t, "Owes", c.Owes(last), times*api.MaxCost)
	for i := range times * api.MaxCost {
		if !c.Pay(last) {
			t.Fatal(i)
		}
	}
	owes(t, c, all(api.MaxCores, 0)...)
	is(t, "Pay of nothing", c.Pay(last), false)
}

func TestCoresAreApart(t *testing.T) {
	costs := [3]int{3, 1, 7}
	a := made(t, 2, costs)
	b := made(t, 2, costs)
	costs[0] = 9
	other := made(t, 8, costs)
	a.Charge(0, Release)
	a.Load(1, 5)
	a.Step(0)
	other.Charge(0, Release)
	owes(t, a, 3, 1)
	lasts(t, a, -1, 5)
	owes(t, b, 0, 0)
	lasts(t, b, -1, -1)
	steps(t, a, 2, 1)
	steps(t, b, 1, 1)
	owes(t, other, 9, 0, 0, 0, 0, 0, 0, 0)
	refused(t, 9, costs)
	owes(t, a, 3, 1)
}

// P9.2

func TestLoad(t *testing.T) {
	c := made(t, 2, [3]int{9, 4, 20})
	is(t, "Load", c.Load(0, 7), true)
	owes(t, c, 4, 0)
	lasts(t, c, 7, -1)
	for range 3 {
		is(t, "Load of the last task", c.Load(0, 7), false)
		owes(t, c, 4, 0)
		lasts(t, c, 7, -1)
	}
	is(t, "Load of another one", c.Load(0, 8), true)
	owes(t, c, 8, 0)
	lasts(t, c, 8, -1)
	is(t, "Load of the one before", c.Load(0, 7), true)
	owes(t, c, 12, 0)
	is(t, "Load on another core", c.Load(1, 7), true)
	owes(t, c, 12, 4)
	lasts(t, c, 7, 7)
	is(t, "Load of the last task", c.Load(1, 7), false)
	is(t, "Load of the last task", c.Load(0, 7), false)
	for range 12 {
		is(t, "Pay", c.Pay(0), true)
	}
	is(t, "Load of the last task behind Pay", c.Load(0, 7), false)
	owes(t, c, 0, 4)
	lasts(t, c, 7, 7)
	steps(t, c, 1, 1)
}

// TestLoadWithoutCost: a task is loaded even if that costs nothing.
func TestLoadWithoutCost(t *testing.T) {
	c := made(t, 1, [3]int{5, 0, 5})
	is(t, "Load", c.Load(0, 3), true)
	is(t, "Load of the last task", c.Load(0, 3), false)
	lasts(t, c, 3)
	owes(t, c, 0)
	is(t, "Load of another one", c.Load(0, 4), true)
	lasts(t, c, 4)
	owes(t, c, 0)
}

// TestLoadAnyTask: a task may be any number.
func TestLoadAnyTask(t *testing.T) {
	tasks := append([]int{0, 1, -2, 23, 24, 25, -1}, extremes...)
	for n := 1; n <= api.MaxCores; n++ {
		c := made(t, n, [3]int{0, 2, 0})
		for i, task := range tasks {
			for core := range n {
				is(t, "Load", c.Load(core, task), true)
				number(t, "Last", c.Last(core), task)
				is(t, "Load of the last task", c.Load(core, task), false)
				number(t, "Owes", c.Owes(core), 2*(i+1))
			}
		}
		lasts(t, c, all(n, tasks[len(tasks)-1])...)
	}
}

// TestLoadMinusOne: it is the last task of a core that has run none, and a task as others are behind another one.
func TestLoadMinusOne(t *testing.T) {
	c := made(t, 2, [3]int{0, 2, 0})
	is(t, "Load of -1 on a new core", c.Load(0, -1), false)
	owes(t, c, 0, 0)
	lasts(t, c, -1, -1)
	is(t, "Load", c.Load(0, 0), true)
	is(t, "Load of -1 behind 0", c.Load(0, -1), true)
	owes(t, c, 4, 0)
	lasts(t, c, -1, -1)
	is(t, "Load of -1 again", c.Load(0, -1), false)
	owes(t, c, 4, 0)
	is(t, "Load of -1 on the other core", c.Load(1, -1), false)
	is(t, "Load behind -1", c.Load(0, 0), true)
	owes(t, c, 6, 0)
	lasts(t, c, 0, -1)
}

// TestLoadLastAndStepOfNoCore: they find nothing, whatever the cores have run, and change nothing.
func TestLoadLastAndStepOfNoCore(t *testing.T) {
	for n := 1; n <= api.MaxCores; n++ {
		c := made(t, n, [3]int{3, 2, 1})
		for core := range n {
			c.Load(core, 5)
		}
		for _, core := range noCores(n) {
			for _, task := range append([]int{-1, 0, 1, 5, 6}, extremes...) {
				if c.Load(core, task) {
					t.Errorf("%d cores: Load(%d, %d) = true", n, core, task)
				}
			}
			if last, step := c.Last(core), c.Step(core); last != -1 || step != 0 {
				t.Errorf("%d cores: Last(%d) = %d, Step(%d) = %d", n, core, last, core, step)
			}
		}
		owes(t, c, all(n, 2)...)
		lasts(t, c, all(n, 5)...)
		steps(t, c, all(n, 1)...)
	}
}

// TestStep: each core counts its own, and nothing else does.
func TestStep(t *testing.T) {
	c := made(t, 3, [3]int{3, 2, 1})
	number(t, "Step(1)", c.Step(1), 1)
	number(t, "Step(1)", c.Step(1), 2)
	number(t, "Step(0)", c.Step(0), 1)
	number(t, "Step(1)", c.Step(1), 3)
	number(t, "Step(2)", c.Step(2), 1)
	number(t, "Step(0)", c.Step(0), 2)
	owes(t, c, 0, 0, 0)
	lasts(t, c, -1, -1, -1)
	for core := range 3 {
		c.Charge(core, Switch)
		c.Pay(core)
		c.Load(core, 9)
		c.Load(core, 9)
	}
	c.Step(-1)
	c.Step(3)
	steps(t, c, 3, 4, 2)
	owes(t, c, 3, 3, 3)
	lasts(t, c, 9, 9, 9)
}

func TestManySteps(t *testing.T) {
	c := made(t, api.MaxCores, [3]int{})
	for i := range 70000 {
		for core := range api.MaxCores {
			if core >= i%9 { // the cores before it pause
				c.Step(core)
			}
		}
	}
	for core := range api.MaxCores {
		want := 0
		for i := range 70000 {
			if core >= i%9 {
				want++
			}
		}
		number(t, "Step", c.Step(core), want+1)
	}
}

// TestAllShortRuns: every run of four calls, on one core and on two.
func TestAllShortRuns(t *testing.T) {
	for n := 1; n <= 2; n++ {
		var calls []call
		for core := range n {
			calls = append(calls, call{"Charge", core, Release}, call{"Charge", core, Switch}, call{"Charge", core, Finish}, call{"Pay", core, 0}, call{"Load", core, -1}, call{"Load", core, 0}, call{"Load", core, 1}, call{"Step", core, 0})
		}
		calls = append(calls, call{"Charge", n, Release}, call{"Charge", 0, 4}, call{"Pay", n, 0}, call{"Load", -1, 0}, call{"Step", n, 0})
		k := len(calls)
		for run := range k * k * k * k {
			runs(t, n, [3]int{2, 1, 0}, []call{calls[run%k], calls[run/k%k], calls[run/k/k%k], calls[run/k/k/k]})
		}
	}
}

// TestLongRuns: of every number of cores, with costs in a fixed order.
func TestLongRuns(t *testing.T) {
	next := source()
	names := []string{"Charge", "Pay", "Pay", "Load", "Step"}
	for n := 1; n <= api.MaxCores; n++ {
		for range 20 {
			calls := make([]call, 400)
			for i := range calls {
				calls[i] = call{names[next(len(names))], next(n+2) - 1, next(5) - 1}
			}
			runs(t, n, [3]int{next(51), next(3), next(51)}, calls)
		}
	}
}

// P9.3

// ordered holds what Order returns against what is wanted.
func ordered(t *testing.T, n int, l []int, want ...int) {
	t.Helper()
	if got := Order(n, l); !slices.Equal(got, want) {
		t.Errorf("Order(%d, %v) = %v, want %v", n, l, got, want)
	}
}

// plainOrder is another spelling of Order.
func plainOrder(n int, l []int) []int {
	var order []int
	for _, core := range append(slices.Clone(l), upTo(n)...) {
		if slices.Contains(upTo(n), core) && !slices.Contains(order, core) {
			order = append(order, core)
		}
	}
	return order
}

func TestOrderByHand(t *testing.T) {
	ordered(t, 1, nil, 0)
	ordered(t, 1, []int{0}, 0)
	ordered(t, 1, []int{1, 0, 0, -1}, 0)
	ordered(t, 2, []int{1}, 1, 0)
	ordered(t, 2, []int{1, 0}, 1, 0)
	ordered(t, 4, []int{3, 1}, 3, 1, 0, 2)
	ordered(t, 4, []int{3, 2, 1, 0}, 3, 2, 1, 0)
	ordered(t, 4, []int{1, 1, 3, 1, 3, 0, 1}, 1, 3, 0, 2)
	ordered(t, 4, []int{4, -1, 2, 5, 64, 66, -4, 2}, 2, 0, 1, 3)
	ordered(t, 4, []int{4, 5, 6, 7, 8, -1}, 0, 1, 2, 3)
	ordered(t, 8, []int{7}, 7, 0, 1, 2, 3, 4, 5, 6)
	ordered(t, 8, []int{8, 7, 0, 7, 3}, 7, 0, 3, 1, 2, 4, 5, 6)
	ordered(t, 8, []int{7, 6, 5, 4, 3, 2, 1, 0}, 7, 6, 5, 4, 3, 2, 1, 0)
}

func TestOrderOfNothing(t *testing.T) {
	for n := 1; n <= api.MaxCores; n++ {
		ordered(t, n, nil, upTo(n)...)
		ordered(t, n, []int{}, upTo(n)...)
		ordered(t, n, noCores(n), upTo(n)...)
	}
}

func TestOrderOfNoCores(t *testing.T) {
	for _, n := range append([]int{0, -1, -2, -8, api.MaxCores + 1, 10, 63, 64, 65}, extremes...) {
		for _, l := range [][]int{nil, {}, {0}, {1, 0}, {n}, {n - 1}, {-1}, upTo(100), extremes} {
			ordered(t, n, l)
		}
	}
}

// TestOrderOfEveryShortList: of up to five numbers, cores and the numbers beside them.
func TestOrderOfEveryShortList(t *testing.T) {
	for n := 1; n <= 4; n++ {
		for size := range 6 {
			lists := 1
			for range size {
				lists *= n + 2
			}
			for i := range lists {
				l := make([]int, size)
				for place := range l {
					l[place], i = i%(n+2)-1, i/(n+2)
				}
				ordered(t, n, l, plainOrder(n, l)...)
			}
		}
	}
}

// permutations calls f with every order of the numbers in l from place on.
func permutations(l []int, place int, f func([]int)) {
	if place == len(l) {
		f(l)
		return
	}
	for i := place; i < len(l); i++ {
		l[place], l[i] = l[i], l[place]
		permutations(l, place+1, f)
		l[place], l[i] = l[i], l[place]
	}
}

// TestOrderOfAllCores: a list with each of them once is its own order, and any part of it stands first.
func TestOrderOfAllCores(t *testing.T) {
	for n := 1; n <= api.MaxCores; n++ {
		permutations(upTo(n), 0, func(l []int) {
			ordered(t, n, l, l...)
			part := l[:l[0]]
			ordered(t, n, part, plainOrder(n, part)...)
		})
	}
}

func TestOrderOfLongLists(t *testing.T) {
	next := source()
	for n := 1; n <= api.MaxCores; n++ {
		for _, size := range []int{9, 64, 65, 300, 100000} {
			l := make([]int, size)
			for i := range l {
				l[i] = next(40) - 15
			}
			ordered(t, n, l, plainOrder(n, l)...)
			for i := range l {
				l[i] = noCores(n)[next(len(noCores(n)))]
			}
			ordered(t, n, l, upTo(n)...)
			l[size-1] = n - 1 // the only core, behind all the others
			ordered(t, n, l, append([]int{n - 1}, upTo(n-1)...)...)
			ordered(t, n, all(size, n-1), append([]int{n - 1}, upTo(n-1)...)...)
		}
	}
}

// TestOrderLeavesItsArgument: nor is the memory behind it changed or looked at.
func TestOrderLeavesItsArgument(t *testing.T) {
	memory := []int{2, 9, 2, 0, 3, 1, -7, 5}
	want := slices.Clone(memory)
	for size := range len(memory) + 1 {
		got := Order(4, memory[:size])
		if !slices.Equal(got, plainOrder(4, want[:size])) {
			t.Errorf("Order(4, %v) = %v", memory[:size], got)
		}
		for i := range got[:cap(got)] {
			got[:cap(got)][i] = 99
		}
		if !slices.Equal(memory, want) {
			t.Fatalf("Order leaves %v", memory)
		}
	}
	for n := 1; n <= api.MaxCores; n++ {
		whole := upTo(n)
		got := Order(n, whole)
		whole[0] = 77
		if !slices.Equal(got, upTo(n)) {
			t.Errorf("the order has changed with the list: %v", got)
		}
	}
}

func TestOrdersAreNewMemory(t *testing.T) {
	for n := 1; n <= api.MaxCores; n++ {
		for _, l := range [][]int{nil, {n - 1}, upTo(n), noCores(n)} {
			a, b := Order(n, l), Order(n, l)
			want := slices.Clone(b)
			for i := range a[:cap(a)] {
				a[:cap(a)][i] = 99
			}
			if !slices.Equal(b, want) || !slices.Equal(Order(n, l), want) {
				t.Errorf("orders share memory: %v, %v, want %v", b, Order(n, l), want)
			}
		}
	}
}

// Ways

// sources returns the files of the package that are no tests.
func sources(t *testing.T) map[string]*ast.File {
	t.Helper()
	names, err := filepath.Glob("*.go")
	if err != nil || len(names) == 0 {
		t.Fatal(names, err)
	}
	files := map[string]*ast.File{}
	for _, name := range names {
		if strings.HasSuffix(name, "_test.go") {
			continue
		}
		file, err := parser.ParseFile(token.NewFileSet(), name, nil, 0)
		if err != nil {
			t.Fatal(err)
		}
		files[name] = file
	}
	return files
}

// TestImports: the chapter lets the layer import package api only.
func TestImports(t *testing.T) {
	for name, file := range sources(t) {
		for _, i := range file.Imports {
			if i.Path.Value != `"tourbillon/api"` {
				t.Errorf("%s imports %s", name, i.Path.Value)
			}
		}
	}
}

// TestIotaShiftsAndAStruct: operations are numbered by iota, cores are marked in shifted bits, and each core is a struct.
func TestIotaShiftsAndAStruct(t *testing.T) {
	iotas, shifts, structs := 0, 0, 0
	for _, file := range sources(t) {
		ast.Inspect(file, func(n ast.Node) bool {
			switch x := n.(type) {
			case *ast.Ident:
				if x.Name == "iota" {
					iotas++
				}
			case *ast.BinaryExpr:
				if x.Op == token.SHL {
					shifts++
				}
			case *ast.ArrayType:
				if name, ok := x.Elt.(*ast.Ident); ok && x.Len == nil && name.Name == "state" {
					structs++
				}
			}
			return true
		})
	}
	if iotas == 0 || shifts == 0 || structs == 0 {
		t.Errorf("iota %d times, %d shifts, %d lists of cores as structs", iotas, shifts, structs)
	}
}
