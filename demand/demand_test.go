package demand

import (
	"go/ast"
	"go/parser"
	"go/token"
	"math/big"
	"path/filepath"
	"slices"
	"strings"
	"testing"

	"tourbillon/api"
)

const (
	most    = 1<<63 - 1
	least   = -1 << 63
	maxTime = api.MaxTime
)

// extremes are none of the numbers that an element, block or release may be. Some of them have the lower bits of one.
var extremes = []int{-1, -2, least, least + 1, least + 2, -1 << 31, -1 << 32, -1<<32 + 1, -maxTime, -1 << 53, maxTime + 1, maxTime + 2, 2*maxTime + 1, 1 << 53, 1 << 62, 1<<62 + 2, most - 1, most}

// answer is what Ask or Busy returns.
type answer struct {
	n   int
	err api.Errno
}

func got(n int, err api.Errno) answer { return answer{n, err} }

func fine(n int) answer { return answer{n, api.OK} }

func fault(err api.Errno) answer { return answer{0, err} }

// of returns an element with a Deadline of its own.
func of(work, period, deadline int) Work {
	return Work{Work: work, Period: period, Deadline: deadline}
}

// top returns an element that precedes all others.
func top(work, period int) Work { return Work{Work: work, Period: period, Deadline: 1, Top: true} }

// asks holds what Ask returns against what is wanted.
func asks(t *testing.T, l []Work, block, release, ticks int, want answer) {
	t.Helper()
	if got := got(Ask(l, block, release, ticks)); got != want {
		t.Fatalf("Ask(%v, %d, %d, %d) = %v, want %v", l, block, release, ticks, got, want)
	}
}

// busies holds what Busy returns against what is wanted.
func busies(t *testing.T, l []Work, block, release int, want answer) {
	t.Helper()
	if got := got(Busy(l, block, release)); got != want {
		t.Fatalf("Busy(%v, %d, %d) = %v, want %v", l, block, release, got, want)
	}
}

// tests holds what Test returns against what is wanted.
func tests(t *testing.T, l []Work, block, release int, want api.Errno) {
	t.Helper()
	if got := Test(l, block, release); got != want {
		t.Fatalf("Test(%v, %d, %d) = %v, want %v", l, block, release, got, want)
	}
}

// example returns the elements of the chapter's first example.
func example() []Work { return []Work{of(3, 10, 5), of(2, 4, 4)} }

// mixed returns elements of all kinds: with Top, without Work, with a Deadline less than, just and greater than the Period.
func mixed() []Work {
	return []Work{of(3, 20, 15), top(1, 30), of(0, 7, 30), of(2, 25, 25), of(4, 50, 120)}
}

// many returns so many elements like w.
func many(n int, w Work) []Work { return slices.Repeat([]Work{w}, n) }

// with returns l with one element more, and does not change l.
func with(l []Work, w Work) []Work { return append(slices.Clone(l), w) }

// source returns a function that returns a number less than n, in a fixed order.
func source() func(n int) int {
	state := uint64(1)
	return func(n int) int {
		state = state*6364136223846793005 + 1442695040888963407
		return int(state >> 33 % uint64(n))
	}
}

// rival is the chapter in other words: sums without bound, and jobs counted by the ticks of which they are a Period apart.
type rival struct {
	l              []Work
	block, release int
}

func number(n int) *big.Int { return big.NewInt(int64(n)) }

func (v rival) right() bool {
	if len(v.l) >= 73 || v.block < 0 || v.release < 0 || max(v.block, v.release) > maxTime {
		return false
	}
	for _, w := range v.l {
		if w.Work < 0 || min(w.Period, w.Deadline) < 1 || max(w.Work, w.Period, w.Deadline) > maxTime {
			return false
		}
	}
	return true
}

// jobs returns how many there are up to t, the first one at from, and then a Period apart.
func jobs(t, from, period int) *big.Int {
	if from > t {
		return number(0)
	}
	n := new(big.Int).Sub(number(t), number(from))
	return n.Quo(n, number(period)).Add(n, number(1))
}

// add adds amount * count to sum, and reports whether count, the product and the sum have 64 bits.
func add(sum *big.Int, amount int, count *big.Int) bool {
	product := new(big.Int).Mul(number(amount), count)
	sum.Add(sum, product)
	return count.IsInt64() && product.IsInt64() && sum.IsInt64()
}

// sum returns block, the Work of the jobs from those ticks on, and release for those that came within t ticks or in the two Periods before.
func (v rival) sum(t int, from func(w Work) int) answer {
	sum := number(v.block)
	for _, w := range v.l {
		ok := add(sum, w.Work, jobs(t, from(w), w.Period))
		if !add(sum, v.release, jobs(t, 1-2*w.Period, w.Period)) || !ok {
			return fault(api.ErrOver)
		}
	}
	return fine(int(sum.Int64()))
}

func (v rival) ask(t int) answer {
	if !v.right() || t < 1 {
		return fault(api.ErrArg)
	}
	return v.sum(t, func(w Work) int {
		if w.Top {
			return 1 - w.Period
		}
		return w.Deadline
	})
}

// full reports whether the parts of the core's time, each rounded up, are greater than all of it.
func (v rival) full() bool {
	sum := new(big.Int)
	for _, w := range v.l {
		for _, work := range []int{w.Work, v.release} {
			part := new(big.Int).Lsh(number(work), 32)
			sum.Add(sum, part.Add(part, number(w.Period-1)).Quo(part, number(w.Period)))
		}
	}
	return sum.Cmp(number(1<<32)) > 0
}

// busy returns what Busy returns, and for how many numbers of ticks the sum was computed.
func (v rival) busy() (answer, int) {
	if !v.right() {
		return fault(api.ErrArg), 0
	}
	if v.full() {
		return fault(api.ErrMiss), 0
	}
	for n, steps := 1, 1; steps <= 5000; steps++ {
		sum := v.sum(n, func(w Work) int { return 1 - w.Period })
		if sum.err != api.OK {
			return sum, steps
		}
		if n >= sum.n {
			return fine(n), steps
		}
		n = sum.n
	}
	return fault(api.ErrCap), 5000
}

// first returns the smallest Deadline that counts; false if none does.
func (v rival) first() (int, bool) {
	var l []int
	for _, w := range v.l {
		if !w.Top {
			l = append(l, w.Deadline)
		}
	}
	if len(l) == 0 {
		return 0, false
	}
	return slices.Min(l), true
}

// points returns the numbers of ticks up to n at which the demand is greater than a tick before.
func (v rival) points(n int) []int {
	var l []int
	for _, w := range v.l {
		for t := 1; t <= n; t += w.Period {
			l = append(l, t)
		}
		for t := w.Deadline; t <= n && !w.Top; t += w.Period {
			l = append(l, t)
		}
	}
	return l
}

// test returns what Test returns if it takes fewer than MaxSteps steps: it looks at every number of ticks at which the demand grows.
func (v rival) test() api.Errno {
	if !v.right() {
		return api.ErrArg
	}
	first, some := v.first()
	if !some {
		return api.OK
	}
	n, _ := v.busy()
	if n.err != api.OK {
		return n.err
	}
	for _, t := range v.points(n.n) {
		if t >= first && v.ask(t).n > t {
			return api.ErrMiss
		}
	}
	return api.OK
}

// spelt holds all that the calls answer about these arguments against the rival.
func spelt(t *testing.T, l []Work, block, release int, ticks ...int) {
	t.Helper()
	v := rival{l, block, release}
	for _, n := range ticks {
		asks(t, l, block, release, n, v.ask(n))
	}
	n, _ := v.busy()
	busies(t, l, block, release, n)
	tests(t, l, block, release, v.test())
}

// P15.1

func TestAskOfTheExample(t *testing.T) {
	for _, c := range []struct{ block, release, ticks, want int }{
		{1, 0, 1, 1},
		{1, 0, 3, 1},
		{1, 0, 4, 3},
		{1, 0, 5, 6},
		{1, 0, 7, 6},
		{1, 0, 8, 8},
		{1, 0, 14, 10},
		{1, 0, 15, 13},
		{0, 0, 5, 5},
		{9, 0, 5, 14},
		{1, 2, 4, 15},
		{1, 2, 5, 20},
		{1, 2, 8, 22},
		{1, 2, 9, 24},
		{1, 2, 10, 24},
		{1, 2, 11, 26},
	} {
		asks(t, example(), c.block, c.release, c.ticks, fine(c.want))
	}
}

// TestAskOfNoElement: block is requested once, and release for no arrival.
func TestAskOfNoElement(t *testing.T) {
	for _, block := range []int{0, 1, 7, maxTime - 1, maxTime} {
		for _, release := range []int{0, 1, 7, maxTime} {
			for _, ticks := range []int{1, 2, 1000, maxTime, most - 1, most} {
				asks(t, nil, block, release, ticks, fine(block))
				asks(t, []Work{}, block, release, ticks, fine(block))
			}
		}
	}
}

// TestAskAboutADeadline: a job counts from its Deadline on, whether that is less than the Period, just that or greater.
func TestAskAboutADeadline(t *testing.T) {
	for _, deadline := range []int{1, 2, 7, 9, 10, 11, 19, 20, 35, maxTime - 1, maxTime} {
		w := of(3, 10, deadline)
		for job := range 4 {
			at := deadline + 10*job
			asks(t, []Work{w}, 5, 0, at, fine(5+3*(job+1)))
			asks(t, []Work{w}, 5, 0, at+1, fine(5+3*(job+1)))
			asks(t, []Work{w}, 5, 0, at+9, fine(5+3*(job+1)))
			if at > 1 {
				asks(t, []Work{w}, 5, 0, at-1, fine(5+3*job))
			}
		}
	}
	asks(t, []Work{of(3, maxTime, 2)}, 0, 0, 1, fine(0))
	asks(t, []Work{of(3, maxTime, 2)}, 0, 0, maxTime+1, fine(3))
	asks(t, []Work{of(3, maxTime, 2)}, 0, 0, maxTime+2, fine(6))
	asks(t, []Work{of(3, 1, maxTime)}, 0, 0, maxTime, fine(3))
	asks(t, []Work{of(3, 1, maxTime)}, 0, 0, maxTime+1, fine(6))
}

// TestAskAboutAPeriod: jobs with Top, and releases of all, count from the tick behind each multiple of the Period on.
func TestAskAboutAPeriod(t *testing.T) {
	for _, period := range []int{1, 2, 3, 10, 1000, maxTime - 1, maxTime} {
		for times := 1; times <= 4; times++ {
			at := period * times
			asks(t, []Work{top(3, period)}, 5, 0, at, fine(5+3*(times+1)))
			asks(t, []Work{top(3, period)}, 5, 0, at+1, fine(5+3*(times+2)))
			asks(t, []Work{of(3, period, maxTime)}, 5, 7, min(at, maxTime-1), fine(5+7*(min(at, maxTime-1)/period+2+min(1, min(at, maxTime-1)%period))))
			asks(t, []Work{top(3, period)}, 5, 7, at, fine(5+3*(times+1)+7*(times+2)))
			asks(t, []Work{top(3, period)}, 5, 7, at+1, fine(5+3*(times+2)+7*(times+3)))
			if at > 1 {
				asks(t, []Work{top(3, period)}, 5, 7, at-1, fine(5+3*((at-2)/period+2)+7*((at-2)/period+3)))
			}
		}
		asks(t, []Work{top(3, period)}, 5, 7, 1, fine(5+3*2+7*3))
	}
}

// TestAskOfTopElements: whatever their Deadlines are.
func TestAskOfTopElements(t *testing.T) {
	for _, deadline := range []int{1, 3, 4, 5, 6, 100, maxTime} {
		w := top(3, 10)
		w.Deadline = deadline
		asks(t, []Work{w}, 0, 0, 1, fine(6))
		asks(t, []Work{w}, 0, 0, 10, fine(6))
		asks(t, []Work{w}, 0, 0, 11, fine(9))
		asks(t, with(example(), w), 1, 0, 5, fine(12))
		asks(t, with(example(), w), 1, 2, 8, fine(34))
	}
}

// TestAskOfAsManyAsThereMayBe: each of them counts; one more is too many, whatever it is.
func TestAskOfAsManyAsThereMayBe(t *testing.T) {
	for n := range 73 {
		asks(t, many(n, of(3, 10, 5)), 1, 2, 15, fine(1+n*14))
		asks(t, many(n, top(3, 10)), 1, 2, 15, fine(1+n*17))
	}
	for _, n := range []int{73, 74, 100, 72 + 256, 5000} {
		for _, w := range []Work{of(3, 10, 5), top(3, 10), of(0, 1, 1), of(maxTime, 1, 1)} {
			asks(t, many(n, w), 0, 0, 15, fault(api.ErrArg))
			asks(t, many(n, w), maxTime, maxTime, most, fault(api.ErrArg))
			busies(t, many(n, w), 0, 0, fault(api.ErrArg))
			tests(t, many(n, w), 0, 0, api.ErrArg)
		}
	}
}

// TestAskOfTheGreatestNumbers: all that may be is reckoned with, and no more than that.
func TestAskOfTheGreatestNumbers(t *testing.T) {
	const m = maxTime
	asks(t, []Work{of(m, m, m)}, m, 0, m, fine(2*m))
	asks(t, []Work{of(m, m, m)}, m, m, m, fine(5*m))
	asks(t, many(72, of(m, m, m)), m, m, m, fine(289*m))
	asks(t, many(72, top(m, m)), m, m, m+1, fine(505*m))
	asks(t, many(72, top(m, 1)), m, m, 1, fine(361*m))
	asks(t, []Work{of(m, m, m)}, 0, 0, most, fine(m*(1<<23-1)))
	asks(t, []Work{of(m, 1, m)}, 0, 0, m+5, fine(6*m))
	asks(t, []Work{of(0, 1, 1)}, m, 0, most-2, fine(m))
}

// TestAskAtTheEndOf64Bits: a factor, a term, and the sum of just 2^63 - 1, and of one more.
func TestAskAtTheEndOf64Bits(t *testing.T) {
	over := fault(api.ErrOver)
	for _, w := range []Work{of(0, 1, 1), top(0, 1), of(0, 1, maxTime)} {
		asks(t, []Work{w}, 0, 0, most-2, fine(0))
		asks(t, []Work{w}, 0, 0, most-1, over)
		asks(t, []Work{w}, 0, 0, most, over)
		w.Period = 2
		asks(t, []Work{w}, 0, 0, most, fine(0))
	}
	// 2^63 - 1 is 7 * 7 * 73 and more primes.
	for _, n := range []int{7, 49, 73, 511, 3577} {
		factor := most / n
		asks(t, []Work{top(n, 1)}, 0, 0, factor-1, fine(most))
		asks(t, []Work{top(n, 1)}, 1, 0, factor-1, over)
		asks(t, []Work{top(n, 1)}, 0, 0, factor, over)
		asks(t, []Work{of(n, 1, 5)}, 0, 0, factor+4, fine(most))
		asks(t, []Work{of(n, 1, 5)}, 1, 0, factor+4, over)
		asks(t, []Work{of(n, 1, 5)}, 0, 0, factor+5, over)
		asks(t, []Work{of(n, 1, maxTime), of(1, maxTime, maxTime)}, 0, 0, factor+maxTime-1, over)
		asks(t, []Work{of(0, 1, 5)}, 0, n, factor-2, fine(most))
		asks(t, []Work{of(0, 1, 5)}, 1, n, factor-2, over)
		asks(t, []Work{of(0, 1, 5)}, 0, n, factor-1, over)
	}
	for power := 1; power <= 40; power++ {
		ticks := 1<<(63-power) - 1
		asks(t, []Work{top(1<<power, 1)}, 0, 0, ticks, over) // a term of 2^63
		asks(t, []Work{top(1<<power, 1)}, 0, 0, ticks-1, fine(most-1<<power+1))
		asks(t, []Work{top(1<<power, 1)}, 1<<power-1, 0, ticks-1, fine(most))
		asks(t, []Work{top(1<<power, 1)}, 1<<power, 0, ticks-1, over)
		asks(t, []Work{of(0, 1, 1)}, 0, 1<<power, ticks-1, over)
		asks(t, []Work{of(0, 1, 1)}, 1<<power-1, 1<<power, ticks-2, fine(most))
		asks(t, []Work{of(0, 1, 1)}, 1<<power, 1<<power, ticks-2, over)
	}
}

// TestAskOverWhereverItIs: a number that is too great is not taken back by what stands behind it.
func TestAskOverWhereverItIs(t *testing.T) {
	for place := range 72 {
		for _, w := range []Work{top(maxTime, 1), of(maxTime, 1, 1)} {
			l := many(72, of(1, maxTime, maxTime))
			asks(t, l, 1, 0, 1<<24, fine(1))
			l[place] = w
			asks(t, l, 1, 0, 1<<22, rival{l, 1, 0}.ask(1<<22))
			asks(t, l, 1, 0, 1<<24, fault(api.ErrOver))
			asks(t, l, 1, 1, 1<<24, fault(api.ErrOver))
		}
	}
	// Two, four and eight of them wrap round to a small sum.
	for _, n := range []int{2, 4, 8, 16, 32} {
		asks(t, many(n, top(1<<40, 1)), 3, 0, 1<<22-1, rival{many(n, top(1<<40, 1)), 3, 0}.ask(1<<22-1))
		asks(t, many(n, top(1<<40, 1)), 3, 0, 1<<23-2, fault(api.ErrOver))
		asks(t, many(n, of(0, 1, 1)), 3, 1<<40, 1<<23-3, fault(api.ErrOver))
	}
}

// TestAskWithoutTicks: there must be one at least, also where nothing is asked.
func TestAskWithoutTicks(t *testing.T) {
	for _, l := range [][]Work{nil, example(), mixed(), many(72, top(maxTime, 1))} {
		for _, ticks := range []int{0, -1, -2, -5, -1 << 31, -1 << 32, -1<<32 + 5, -maxTime, least + 5, least + 1, least} {
			asks(t, l, 1, 0, ticks, fault(api.ErrArg))
			asks(t, l, 0, maxTime, ticks, fault(api.ErrArg))
		}
	}
}

// wrongs returns wrong elements: each number of them out of its bounds.
func wrongs() []Work {
	var l []Work
	for _, n := range extremes {
		for _, isTop := range []bool{false, true} {
			l = append(l, Work{n, 10, 5, isTop}, Work{3, n, 5, isTop}, Work{3, 10, n, isTop}, Work{n, n, n, isTop})
		}
	}
	return append(l, of(3, 0, 5), of(3, 10, 0), top(3, 0), Work{3, 10, 0, true}, Work{}, Work{Top: true}, of(0, 0, 1), of(0, 1, 0))
}

// refused holds that all calls refuse these arguments.
func refused(t *testing.T, l []Work, block, release int) {
	t.Helper()
	for _, ticks := range []int{least, 0, 1, 5, maxTime, most} {
		asks(t, l, block, release, ticks, fault(api.ErrArg))
	}
	busies(t, l, block, release, fault(api.ErrArg))
	tests(t, l, block, release, api.ErrArg)
}

// TestWrongArguments: at every place, alone and among others, also where another error would come.
func TestWrongArguments(t *testing.T) {
	for _, n := range extremes {
		for _, l := range [][]Work{nil, {top(1, 9)}, example(), many(72, of(maxTime, 1, 1))} {
			refused(t, l, n, 0)
			refused(t, l, 0, n)
			refused(t, l, n, maxTime)
			refused(t, l, maxTime, n)
			refused(t, l, n, n)
		}
	}
	for _, w := range wrongs() {
		refused(t, []Work{w}, 0, 0)
		for _, l := range [][]Work{example(), {top(1, 9), top(2, 9)}, many(71, of(maxTime, 1, 1)), many(71, top(maxTime, 1))} {
			for _, place := range []int{0, 1, len(l)} {
				refused(t, slices.Insert(slices.Clone(l), place, w), maxTime, 0)
			}
		}
	}
}

// TestNumbersAtTheirBounds: they are not refused.
func TestNumbersAtTheirBounds(t *testing.T) {
	for _, work := range []int{0, 1, maxTime - 1, maxTime} {
		for _, period := range []int{1, 2, maxTime - 1, maxTime} {
			for _, deadline := range []int{1, 2, maxTime - 1, maxTime} {
				for _, bounds := range [][2]int{{0, 0}, {maxTime, 0}, {0, maxTime}, {maxTime, maxTime}} {
					for _, isTop := range []bool{false, true} {
						l := []Work{{work, period, deadline, isTop}}
						v := rival{l, bounds[0], bounds[1]}
						for _, ticks := range []int{1, 2, maxTime, 1 << 60, most} {
							asks(t, l, v.block, v.release, ticks, v.ask(ticks))
						}
						n, _ := v.busy()
						busies(t, l, v.block, v.release, n)
						if n.err == api.ErrArg {
							t.Fatalf("refused: %v", v)
						}
					}
				}
			}
		}
	}
}

// P15.2

func TestBusyOfSome(t *testing.T) {
	for _, c := range []struct {
		l              []Work
		block, release int
		want           answer
	}{
		{example(), 1, 0, fine(36)},
		{example(), 0, 0, fine(28)},
		{[]Work{of(1, 10, 5), of(1, 4, 4)}, 0, 0, fine(4)},
		{[]Work{of(1, 4, 4)}, 0, 0, fine(2)},
		{[]Work{of(1, 2, 2)}, 0, 0, fine(2)},
		{[]Work{of(2, 4, 1)}, 0, 0, fine(4)},
		{[]Work{of(2, 4, 1)}, 1, 0, fine(7)},
		{[]Work{of(0, 4, 1)}, 0, 1, fine(3)},
		{[]Work{of(0, 4, 1)}, 2, 1, fine(6)},
		{[]Work{of(1, 4, 1)}, 0, 1, fine(7)},
		{[]Work{of(1, 4, 1)}, 0, 4, fault(api.ErrMiss)},
		{example(), 1, 2, fault(api.ErrMiss)},
		{[]Work{of(1, 1, 1)}, 1, 0, fault(api.ErrCap)},
		{[]Work{of(5, 4, 4)}, 0, 0, fault(api.ErrMiss)},
	} {
		busies(t, c.l, c.block, c.release, c.want)
		n, _ := rival{c.l, c.block, c.release}.busy()
		busies(t, c.l, c.block, c.release, n)
	}
}

// TestBusyAtItsFirstNumber: one tick is enough if no more than that arrives.
func TestBusyAtItsFirstNumber(t *testing.T) {
	for _, n := range []int{0, 1, 2, 71, 72} {
		for _, w := range []Work{of(0, 1, 1), of(0, maxTime, maxTime), top(0, 3)} {
			busies(t, many(n, w), 0, 0, fine(1))
			busies(t, many(n, w), 1, 0, fine(1))
			busies(t, many(n, w), 2, 0, fine(2))
			busies(t, many(n, w), 3, 0, fine(3))
			busies(t, many(n, w), maxTime, 0, fine(maxTime))
		}
	}
	for _, release := range []int{0, 1, maxTime} {
		busies(t, nil, 0, release, fine(1))
		busies(t, nil, 1, release, fine(1))
		busies(t, nil, 2, release, fine(2))
		busies(t, nil, maxTime, release, fine(maxTime))
	}
	busies(t, []Work{of(0, 9, 9)}, 0, 1, fine(3))
	busies(t, []Work{of(1, 9, 9)}, 0, 0, fine(2))
}

// TestBusyOfALoadAboutTheWhole: of just 2^32, it is searched for, in vain; of a little more, it is not.
func TestBusyOfALoadAboutTheWhole(t *testing.T) {
	miss, steps := fault(api.ErrMiss), fault(api.ErrCap)
	for _, c := range []struct {
		l       []Work
		release int
		want    answer
	}{
		{[]Work{of(1, 1, 1)}, 0, steps},
		{[]Work{of(2, 1, 1)}, 0, miss},
		{[]Work{of(maxTime, maxTime, 1)}, 0, steps},
		{[]Work{of(maxTime, maxTime-1, 1)}, 0, miss},
		{[]Work{of(maxTime, maxTime, 1), of(1, maxTime, 1)}, 0, miss},
		{[]Work{of(maxTime, maxTime, 1), of(0, 1, 1)}, 0, steps},
		{[]Work{of(1, 2, 2), of(1, 2, 2)}, 0, steps},
		{[]Work{of(1, 2, 2), of(1, 2, 2), of(1, maxTime, 1)}, 0, miss},
		{[]Work{of(1<<32-1, 1<<32, 1)}, 0, steps},
		{[]Work{of(1<<32-1, 1<<32, 1), of(1, maxTime, 1)}, 0, steps},
		{[]Work{of(1<<32-1, 1<<32, 1), of(1<<8, maxTime, 1)}, 0, steps},
		{[]Work{of(1<<32-1, 1<<32, 1), of(1<<8+1, maxTime, 1)}, 0, miss},
		{[]Work{of(1<<32-1, 1<<32, 1), of(1, maxTime, 1), of(1, maxTime, 1)}, 0, miss},
		{[]Work{of(0, 1, 1)}, 1, steps},
		{[]Work{of(0, 1, 1)}, 2, miss},
		{[]Work{of(1, 1, 1)}, 1, miss},
		{[]Work{of(1, 2, 1)}, 1, steps},
		{[]Work{of(0, 2, 1), of(0, 2, 1)}, 1, steps},
		{[]Work{of(0, 2, 1), of(1, 2, 1)}, 1, miss},
		{[]Work{of(0, maxTime, 1)}, maxTime, steps},
		{[]Work{of(1, maxTime, 1)}, maxTime, miss},
		// Each term is rounded up: of three thirds that is more than the whole, of one in one it is not.
		{[]Work{of(3, 3, 3)}, 0, steps},
		{many(3, of(1, 3, 3)), 0, miss},
		{[]Work{of(2, 3, 3)}, 1, miss},
		{[]Work{of(1, 3, 3)}, 2, miss},
		{[]Work{of(0, 3, 3)}, 3, steps},
		{many(24, of(1, 24, 24)), 0, miss},
		{many(16, of(1, 16, 16)), 0, steps},
		{many(64, of(1, 64, 64)), 0, steps},
		{many(65, of(1, 64, 64)), 0, miss},
		{many(32, of(1, 64, 64)), 1, steps},
		{many(33, of(1, 64, 64)), 1, miss},
	} {
		for _, isTop := range []bool{false, true} {
			l := slices.Clone(c.l)
			for i := range l {
				l[i].Top = isTop
			}
			for _, block := range []int{0, 1, maxTime} {
				busies(t, l, block, c.release, c.want)
			}
		}
		tests(t, c.l, 0, c.release, c.want.err)
	}
}

// TestBusyOfALoadThatIsTooGreatToBeReckoned: whatever qarith.Load returns, it is a miss.
func TestBusyOfALoadThatIsTooGreatToBeReckoned(t *testing.T) {
	for _, l := range [][]Work{
		{of(maxTime, 1, 1)},
		{of(1<<31, 1, 1)},
		{of(1<<31-1, 1, 1)},
		{of(1<<30, 1, 1), of(1<<30, 1, 1)},
		many(72, of(maxTime, 1, 1)),
		many(72, of(maxTime, 2, maxTime)),
		append(many(71, of(0, 9, 9)), of(maxTime, 1, maxTime)),
	} {
		for _, block := range []int{0, maxTime} {
			for _, release := range []int{0, 1, maxTime} {
				busies(t, l, block, release, fault(api.ErrMiss))
				tests(t, l, block, release, api.ErrMiss)
			}
		}
	}
	busies(t, []Work{of(0, 1, 1)}, 0, maxTime, fault(api.ErrMiss))
	busies(t, []Work{of(0, 1, 1)}, 0, 1<<31, fault(api.ErrMiss))
}

// slow returns an element for which Busy computes the sum for as many numbers as there are ticks in its Period; Test takes one step more if its Deadline is deadline less than its Period.
func slow(period, deadline int) Work { return of(period-1, period, period-deadline) }

// TestBusyOfMaxSteps: at the last number it may still be found.
func TestBusyOfMaxSteps(t *testing.T) {
	for _, isTop := range []bool{false, true} {
		for _, period := range []int{2, 10, 4999, 5000} {
			w := slow(period, 0)
			w.Top = isTop
			v := rival{[]Work{w}, 0, 0}
			if n, steps := v.busy(); steps != period || n.err != api.OK {
				t.Fatalf("%d steps and %v of a period of %d", steps, n, period)
			}
			busies(t, []Work{w}, 0, 0, fine(period*(period-1)))
		}
		for _, period := range []int{5001, 5002, 10000, maxTime} {
			w := slow(period, 0)
			w.Top = isTop
			busies(t, []Work{w}, 0, 0, fault(api.ErrCap))
		}
	}
	tests(t, []Work{slow(5001, 0)}, 0, 0, api.ErrCap)
	tests(t, []Work{slow(5001, -100)}, 0, 0, api.ErrCap)
}

// TestBusyDoesNotLookAtDeadlines: nor at Top.
func TestBusyDoesNotLookAtDeadlines(t *testing.T) {
	want := got(Busy(mixed(), 2, 1))
	if want.err != api.OK {
		t.Fatal(want)
	}
	for i := range mixed() {
		for _, deadline := range []int{1, 2, 100, maxTime} {
			for _, isTop := range []bool{false, true} {
				l := mixed()
				l[i].Deadline, l[i].Top = deadline, isTop
				busies(t, l, 2, 1, want)
			}
		}
	}
}

// TestBusyIsTheSmallest: every number up to it is looked at.
func TestBusyIsTheSmallest(t *testing.T) {
	number := source()
	tried := 0
	for range 3000 {
		l, block, release := drawn(number, 30)
		v := rival{l, block, release}
		want, steps := v.busy()
		if want.err != api.OK || want.n > 2000 {
			continue
		}
		busies(t, l, block, release, want)
		for n := 1; n <= want.n; n++ {
			sum := v.sum(n, func(w Work) int { return 1 - w.Period })
			if enough := sum.n <= n; enough != (n == want.n) {
				t.Fatalf("of %v within %d ticks %v, and Busy is %v", v, n, sum, want)
			}
		}
		tried += min(steps, 2) - 1
	}
	if tried < 500 {
		t.Errorf("only %d tried", tried)
	}
}

// TestBusyIsNeverOver: with the greatest numbers and as many steps as there may be, 64 bits are enough.
func TestBusyIsNeverOver(t *testing.T) {
	for _, l := range [][]Work{
		many(72, of(maxTime/128, maxTime, 1)),
		many(64, of(maxTime/64, maxTime, 1)),
		many(71, of(maxTime/72, maxTime, 1)),
		many(1, of(maxTime-1, maxTime, 1)),
		append(many(71, of(maxTime/128, maxTime, 1)), of(1, 4, 4)),
	} {
		for _, release := range []int{0, 1, maxTime / 256, maxTime / 72, maxTime} {
			v := rival{l, maxTime, release}
			want, _ := v.busy()
			if want.err == api.ErrOver {
				t.Errorf("%v", v)
			}
			busies(t, l, maxTime, release, want)
		}
	}
}

// P15.3

func TestTestOfSome(t *testing.T) {
	for _, c := range []struct {
		l              []Work
		block, release int
		want           api.Errno
	}{
		{example(), 1, 0, api.ErrMiss},
		{example(), 0, 0, api.OK},
		{[]Work{of(1, 10, 5), of(1, 4, 4)}, 0, 0, api.OK},
		{[]Work{of(1, 10, 5), of(1, 4, 4), top(2, 20)}, 0, 0, api.ErrMiss},
		{[]Work{of(1, 10, 5), of(1, 4, 4), top(1, 20)}, 0, 0, api.OK},
		{[]Work{of(1, 10, 5), of(1, 4, 4), top(1, 20)}, 1, 0, api.OK},
		{[]Work{of(1, 10, 5), of(1, 4, 4), top(1, 20)}, 2, 0, api.ErrMiss},
		{mixed(), 0, 0, api.OK},
		{mixed(), 9, 0, api.OK},
		{mixed(), 11, 0, api.ErrMiss},
		{mixed(), 0, 1, api.ErrMiss},
	} {
		tests(t, c.l, c.block, c.release, c.want)
		tests(t, c.l, c.block, c.release, rival{c.l, c.block, c.release}.test())
	}
}

// TestTestWithoutDeadlines: without an element, or with Top only, there is nothing that could be missed, whatever Busy would return.
func TestTestWithoutDeadlines(t *testing.T) {
	for _, l := range [][]Work{nil, {}, {top(1, 1)}, {top(2, 20)}, {top(5, 4), top(0, 9)}, many(72, top(maxTime, 1)), many(72, top(0, maxTime))} {
		for _, bounds := range [][2]int{{0, 0}, {maxTime, 0}, {0, maxTime}, {maxTime, maxTime}} {
			tests(t, l, bounds[0], bounds[1], api.OK)
		}
	}
	for place := range 72 {
		l := many(72, top(maxTime, 1))
		l[place].Top = false
		tests(t, l, 0, 0, api.ErrMiss)
		l = many(72, top(1, 64))
		tests(t, l[:64], 0, 0, api.OK)
		l[place%64].Top = false
		tests(t, l[:64], 0, 0, api.ErrCap)
	}
}

// TestTestOfABusyPeriodBeforeTheFirstDeadline: then nothing is asked.
func TestTestOfABusyPeriodBeforeTheFirstDeadline(t *testing.T) {
	// Busy is 36, and there is too much for 35 ticks and for 36.
	l := []Work{top(3, 10), top(2, 4)}
	for deadline, want := range map[int]api.Errno{35: api.ErrMiss, 36: api.OK, 37: api.OK, 38: api.OK, 1000: api.OK, maxTime: api.OK, 34: api.ErrMiss, 1: api.ErrMiss} {
		tests(t, with(l, of(0, 9, deadline)), 1, 0, want)
	}
	// It is maxTime of block alone.
	tests(t, []Work{of(0, 9, maxTime)}, maxTime, 0, api.OK)
	tests(t, []Work{of(0, 9, maxTime-1)}, maxTime, 0, api.ErrMiss)
	tests(t, []Work{of(0, 9, maxTime-1)}, maxTime-1, 0, api.OK)
	tests(t, []Work{of(0, 9, 1)}, 1, 0, api.OK)
	tests(t, []Work{of(0, 9, 1)}, 2, 0, api.ErrMiss)
	tests(t, []Work{of(0, 9, 1)}, 0, 0, api.OK)
}

// TestTestAboutTheFirstDeadline: a demand as great as it is met, one greater is not; with each part of the demand.
func TestTestAboutTheFirstDeadline(t *testing.T) {
	for _, deadline := range []int{3, 4, 5, 10, 100, 1 << 39} {
		w, late := of(2, maxTime, deadline), of(1, maxTime, maxTime)
		for extra, want := range []api.Errno{api.OK, api.ErrMiss, api.ErrMiss} {
			tests(t, []Work{w}, deadline-2+extra, 0, want)
			tests(t, []Work{w, late}, deadline-2+extra, 0, want)
			tests(t, []Work{late, w, of(deadline-2+extra, maxTime, deadline)}, 0, 0, want)
			tests(t, []Work{late, of(deadline+extra, maxTime, deadline)}, 0, 0, want)
			if deadline%2 == 0 {
				tests(t, []Work{w, top((deadline-2)/2, maxTime)}, extra, 0, want)
			}
		}
	}
	for extra, want := range []api.Errno{api.OK, api.ErrMiss} {
		tests(t, []Work{of(1, maxTime, 31)}, extra, 10, want)
		tests(t, []Work{of(1, maxTime, 121), top(15, maxTime)}, extra, 15, want)
	}
}

// TestTestAboutADeadlineBehindTheFirst: in the middle, where it is reached by a step to the demand and by a step of one.
func TestTestAboutADeadlineBehindTheFirst(t *testing.T) {
	for _, deadline := range []int{20, 21, 30, 50, 99} {
		for extra, want := range []api.Errno{api.OK, api.ErrMiss} {
			l := []Work{of(3, 200, 10), of(deadline-3+extra, 200, deadline)}
			tests(t, l, 0, 0, want)
			tests(t, with(l, of(1, 200, 150)), 0, 0, want)
			tests(t, with(l, of(0, 1, 1)), 0, 0, want)
		}
	}
	// The second job of the first element has the deadline 14.
	tests(t, []Work{of(3, 10, 4), of(8, 100, 14)}, 0, 0, api.OK)
	tests(t, []Work{of(3, 10, 4), of(9, 100, 14)}, 0, 0, api.ErrMiss)
	tests(t, []Work{of(3, 10, 4), of(9, 100, 15)}, 0, 0, api.OK)
	tests(t, []Work{of(3, 10, 4), of(9, 100, 13)}, 0, 0, api.ErrMiss) // within 14 ticks, not within 13
	tests(t, []Work{of(3, 10, 4), of(10, 100, 13)}, 0, 0, api.ErrMiss)
	tests(t, []Work{of(3, 10, 4), of(8, 100, 13)}, 0, 0, api.OK)
}

// TestTestCountsADeadlineWithoutWork: it is the smallest one, too.
func TestTestCountsADeadlineWithoutWork(t *testing.T) {
	l := []Work{of(5, 100, 50)}
	tests(t, l, 3, 0, api.OK)
	for deadline, want := range []api.Errno{1: api.ErrMiss, 2: api.ErrMiss, 3: api.OK, 4: api.OK} {
		if deadline > 0 {
			tests(t, with(l, of(0, 100, deadline)), 3, 0, want)
		}
	}
	zero := Work{0, 100, 1, true}
	tests(t, with(l, zero), 3, 0, api.OK)
}

// TestTestOfMaxSteps: in the last step it may still be decided, either way.
func TestTestOfMaxSteps(t *testing.T) {
	for _, period := range []int{10, 4998, 4999} {
		tests(t, []Work{slow(period, 1)}, 0, 0, api.OK)
	}
	busies(t, []Work{slow(5000, 1)}, 0, 0, fine(5000*4999))
	tests(t, []Work{slow(5000, 1)}, 0, 0, api.ErrCap)
	tests(t, []Work{slow(5000, 0)}, 0, 0, api.OK)
	for _, period := range []int{10, 4997, 4998} {
		tests(t, []Work{slow(period, 2)}, 0, 0, api.ErrMiss)
	}
	tests(t, []Work{slow(4999, 2)}, 0, 0, api.ErrCap)
	tests(t, []Work{slow(5000, 2)}, 0, 0, api.ErrCap)
	// The last step comes to 4997 ticks: they are fewer than the smallest Deadline, or one step more is needed.
	tests(t, []Work{slow(4999, 1), of(0, 1, 4998)}, 0, 0, api.OK)
	tests(t, []Work{slow(4999, 1), of(0, 1, 4997)}, 0, 0, api.ErrCap)
	tests(t, []Work{slow(4999, 1), of(0, 1, 1)}, 0, 0, api.ErrCap)
	// A job has its Deadline just at the end of the busy period: beginning a tick before it would be a step less.
	tests(t, []Work{slow(5000, 0), of(0, 1, 5000)}, 0, 0, api.OK)
	tests(t, []Work{slow(5000, 0), of(0, 1, 4999)}, 0, 0, api.ErrCap)
}

// TestStepsOfTest: the constructed ones take as many as they should, by the words of the chapter.
func TestStepsOfTest(t *testing.T) {
	for _, c := range []struct {
		w     Work
		steps int
		want  api.Errno
	}{
		{slow(4999, 1), 5000, api.OK},
		{slow(5000, 1), 5001, api.OK},
		{slow(5000, 0), 5000, api.OK},
		{slow(4998, 2), 5000, api.ErrMiss},
		{slow(4999, 2), 5001, api.ErrMiss},
	} {
		n, _ := Busy([]Work{c.w}, 0, 0)
		steps, end := 1, api.OK
		for n >= c.w.Deadline {
			asked, _ := Ask([]Work{c.w}, 0, 0, n)
			if asked > n {
				end = api.ErrMiss
				break
			}
			n = min(n-1, asked)
			steps++
		}
		if steps != c.steps || end != c.want {
			t.Errorf("%v: %d steps and %v, want %d and %v", c.w, steps, end, c.steps, c.want)
		}
	}
}

// TestErrorsInTheirOrder: wrong arguments first, then what Busy returns, then the demand.
func TestErrorsInTheirOrder(t *testing.T) {
	tests(t, []Work{top(5, 4), of(5, 4, 0)}, 0, 0, api.ErrArg)
	tests(t, []Work{top(5, 4), Work{5, 4, 0, true}}, 0, 0, api.ErrArg)
	tests(t, []Work{of(2, 1, 1)}, -1, 0, api.ErrArg)
	tests(t, nil, -1, 0, api.ErrArg)
	tests(t, nil, 0, maxTime+1, api.ErrArg)
	asks(t, []Work{top(maxTime, 1)}, -1, 0, most, fault(api.ErrArg))
	asks(t, []Work{top(maxTime, 1)}, 0, maxTime+1, most, fault(api.ErrArg))
	asks(t, []Work{top(maxTime, 1), of(-1, 1, 1)}, 0, 0, most, fault(api.ErrArg))
	busies(t, []Work{of(2, 1, 1), of(1, 0, 1)}, 0, 0, fault(api.ErrArg))
	tests(t, []Work{of(1, 1, 1)}, 5, 0, api.ErrCap) // and the demand within one tick is 6
	tests(t, []Work{of(1, 2, maxTime), of(1, 2, maxTime)}, 0, 0, api.ErrCap)
	tests(t, []Work{of(3, 2, maxTime)}, 0, 0, api.ErrMiss)
}

// drawn returns elements, a block and a release, with Periods up to limit; the load is mostly less than the whole.
func drawn(number func(n int) int, limit int) ([]Work, int, int) {
	var l []Work
	n := 1 + number(5)
	for range n {
		period := 1 + number(limit)
		w := of(number(period/n+2), period, 1+number(2*period))
		w.Top = number(4) == 0
		w.Deadline = min(w.Deadline, maxTime)
		l = append(l, w)
	}
	return l, number(limit), number(2) * number(2+limit/50)
}

// small returns all elements of small numbers.
func small() []Work {
	var l []Work
	for work := range 3 {
		for _, period := range []int{1, 2, 3, 5} {
			for _, deadline := range []int{1, 2, 3, 6} {
				l = append(l, of(work, period, deadline), Work{work, period, deadline, true})
			}
		}
	}
	return l
}

// count is the rival of small numbers, by loops and without products: the demand within n ticks, and what may arrive.
func count(v rival, n int) (demand, arriving int) {
	demand, arriving = v.block, v.block
	for _, w := range v.l {
		begun := 1
		for at := 0; at < n; at += w.Period {
			begun++
		}
		ended := 0
		for at := w.Deadline; at <= n; at += w.Period {
			ended++
		}
		if w.Top {
			ended = begun
		}
		for range begun {
			arriving += w.Work + v.release
			demand += v.release
		}
		for range ended {
			demand += w.Work
		}
		arriving, demand = arriving+v.release, demand+v.release
	}
	return demand, arriving
}

// TestEverySmallLoad: two elements, in every way, with every number of ticks up to the end of the busy period.
func TestEverySmallLoad(t *testing.T) {
	for i, first := range small() {
		for _, second := range small()[i:] {
			for way := range 6 {
				counted(t, rival{[]Work{first, second}, way % 3, way / 3})
			}
		}
	}
}

// counted holds the calls against what is counted.
func counted(t *testing.T, v rival) {
	t.Helper()
	if v.full() {
		spelt(t, v.l, v.block, v.release)
		return
	}
	busy := 0
	first, some := v.first()
	missed := false
	for n := 1; n < 300; n++ {
		demand, arriving := count(v, n)
		if n < 12 || busy == 0 && n < 100 {
			asks(t, v.l, v.block, v.release, n, fine(demand))
		}
		missed = missed || busy == 0 && n >= first && demand > n
		if busy == 0 && arriving <= n {
			busy = n
		}
	}
	want := api.OK
	switch {
	case !some:
	case busy == 0:
		want = api.ErrCap
	case missed:
		want = api.ErrMiss
	}
	tests(t, v.l, v.block, v.release, want)
	if busy == 0 {
		busies(t, v.l, v.block, v.release, fault(api.ErrCap))
		return
	}
	busies(t, v.l, v.block, v.release, fine(busy))
}

func TestLoadsInAFixedOrder(t *testing.T) {
	number := source()
	found := map[api.Errno]int{}
	for _, limit := range []int{3, 10, 30, 100, 1000} {
		for range 500 {
			l, block, release := drawn(number, limit)
			n, _ := rival{l, block, release}.busy()
			if n.n > 5000*limit/10 {
				continue
			}
			spelt(t, l, block, release, 1+number(limit), 1+number(50*limit), most-number(1000))
			found[Test(l, block, release)]++
		}
	}
	for _, err := range []api.Errno{api.OK, api.ErrMiss, api.ErrCap} {
		if found[err] < 30 {
			t.Errorf("%v: only %d", err, found[err])
		}
	}
}

// TestGreatLoadsInAFixedOrder: of numbers of all sizes, with as many elements as there may be.
func TestGreatLoadsInAFixedOrder(t *testing.T) {
	number := source()
	size := func(limit int) int { return min(limit, 1+number(1<<31-1)<<9>>number(40)) }
	found := map[api.Errno]int{}
	for range 1000 {
		var l []Work
		n, soon := 1+number(72), number(2)
		for range n {
			period := 1<<39 + size(1<<39)
			l = append(l, Work{size(period) / n, period, min(maxTime, size(maxTime)+1<<39>>(soon*number(40))), number(3) == 0})
		}
		block, release := size(maxTime)/4, number(2)*size(maxTime/n/16)
		spelt(t, l, block, release, size(maxTime), size(maxTime)<<10, size(maxTime)<<23-1, most)
		found[Test(l, block, release)]++
	}
	if found[api.OK] < 100 || found[api.ErrMiss] < 100 {
		t.Error(found)
	}
}

// P15.4

// TestNoDemandIsGreaterWhereTestIsOK: from the smallest Deadline up to Busy, tick by tick; where Test answers ErrMiss, some is.
func TestNoDemandIsGreaterWhereTestIsOK(t *testing.T) {
	number := source()
	found := map[api.Errno]int{}
	for range 3000 {
		l, block, release := drawn(number, 40)
		first, some := rival{l, block, release}.first()
		busy, err := Busy(l, block, release)
		if !some || err != api.OK || busy > 3000 {
			continue
		}
		want := api.OK
		for n := first; n <= busy; n++ {
			if asked, err := Ask(l, block, release, n); asked > n || err != api.OK {
				want = api.ErrMiss
			}
		}
		tests(t, l, block, release, want)
		found[want]++
	}
	if found[api.OK] < 300 || found[api.ErrMiss] < 300 {
		t.Error(found)
	}
}

// TestMoreIsNotBetter: with more work, a shorter Deadline, a greater block or release, or an element more, what was missed stays missed.
func TestMoreIsNotBetter(t *testing.T) {
	number := source()
	missed := 0
	for range 4000 {
		l, block, release := drawn(number, 40)
		if Test(l, block, release) != api.ErrMiss {
			continue
		}
		missed++
		for i, w := range l {
			more, sooner, oftener := slices.Clone(l), slices.Clone(l), slices.Clone(l)
			more[i].Work += 1 + number(5)
			sooner[i].Deadline = 1 + number(w.Deadline)
			oftener[i].Period = 1 + number(w.Period)
			for _, worse := range [][]Work{more, sooner, oftener} {
				if err := Test(worse, block, release); err == api.OK {
					t.Fatalf("missed: %v; not missed: %v, %d, %d", l, worse, block, release)
				}
			}
		}
		if Test(l, block+1+number(9), release) == api.OK || Test(l, block, release+1) == api.OK || Test(with(l, of(number(3), 1+number(50), 1+number(50))), block, release) == api.OK {
			t.Fatalf("missed: %v, %d, %d, and not with more", l, block, release)
		}
	}
	if missed < 500 {
		t.Errorf("only %d missed", missed)
	}
}

// TestDemandGrows: with the ticks, and with each number but the Period and the Deadline.
func TestDemandGrows(t *testing.T) {
	number := source()
	for range 1000 {
		l, block, release := drawn(number, 40)
		n := 1 + number(100)
		asked, _ := Ask(l, block, release, n)
		more := slices.Clone(l)
		more[number(len(l))].Work++
		later, _ := Ask(l, block, release, n+number(9))
		harder, _ := Ask(more, block, release, n)
		blocked, _ := Ask(l, block+1, release, n)
		released, _ := Ask(l, block, release+1, n)
		if later < asked || harder < asked || blocked != asked+1 || released < asked+3*len(l) {
			t.Fatalf("Ask(%v, %d, %d, %d) = %d; with more %d, %d, %d, %d", l, block, release, n, asked, later, harder, blocked, released)
		}
	}
}

// TestOrderOfElementsDoesNotCount: round about and backwards, all is as before.
func TestOrderOfElementsDoesNotCount(t *testing.T) {
	number := source()
	for range 500 {
		l, block, release := drawn(number, 60)
		busy, n := got(Busy(l, block, release)), 1+number(200)
		asked, end := got(Ask(l, block, release, n)), Test(l, block, release)
		other := slices.Clone(l)
		for i := range 2 * len(l) {
			other = append(other[1:], other[0])
			if i == len(l) {
				slices.Reverse(other)
			}
			asks(t, other, block, release, n, asked)
			busies(t, other, block, release, busy)
			tests(t, other, block, release, end)
		}
	}
}

// TestArgumentsAreNotChanged: nor what stands behind the list's length, which is not looked at.
func TestArgumentsAreNotChanged(t *testing.T) {
	whole := append(mixed(), of(-1, 0, most), of(maxTime, 1, 1))
	l := slices.Clone(whole)[:5]
	for range 3 {
		spelt(t, l, 1, 0, 1, 15, 50, most)
		tests(t, l, 0, 0, api.OK)
		refused(t, l, -1, 0)
		refused(t, l[:7], 0, 0)
	}
	if !slices.Equal(l[:7], whole) {
		t.Errorf("elements were changed: %v, want %v", l[:7], whole)
	}
}

// TestCallsAreApart: what a call answers does not hang on those before it, also if they were given the same memory.
func TestCallsAreApart(t *testing.T) {
	l := example()
	for range 3 {
		tests(t, l, 0, 0, api.OK)
		busies(t, l, 0, 0, fine(28))
		l[0].Work = 5
		tests(t, l, 0, 0, api.ErrCap)
		asks(t, l, 0, 0, 5, fine(7))
		l[0].Work = -1
		refused(t, l, 0, 0)
		l[0].Work = 3
		l[1].Top = true
		asks(t, l, 0, 0, 3, fine(4))
		tests(t, l, 0, 0, api.ErrMiss)
		l[1].Top = false
		asks(t, l, 0, 0, 3, fine(0))
	}
}

// Ways

// sources returns the files of the package that are no tests.
func sources(t *testing.T) map[string]*ast.File {
	t.Helper()
	names, err := filepath.Glob("*.go")
	if err != nil || len(names) == 0 {
		t.Fatal(names, err)
	}
	files := map[string]*ast.File{}
	for _, name := range names {
		if strings.HasSuffix(name, "_test.go") {
			continue
		}
		file, err := parser.ParseFile(token.NewFileSet(), name, nil, 0)
		if err != nil {
			t.Fatal(err)
		}
		files[name] = file
	}
	return files
}

// TestImports: the chapter lets the layer import qarith and api only.
func TestImports(t *testing.T) {
	for name, file := range sources(t) {
		for _, i := range file.Imports {
			if path := i.Path.Value; path != `"tourbillon/api"` && path != `"tourbillon/qarith"` {
				t.Errorf("%s imports %s", name, path)
			}
		}
	}
}

// TestElementsAreFoldedAndErrorsLabelled: a generic function is called with the elements, and errors go to a label.
func TestElementsAreFoldedAndErrorsLabelled(t *testing.T) {
	generic, calls, labels, jumps := map[string]bool{}, map[string]int{}, map[string]bool{}, map[string]int{}
	for _, file := range sources(t) {
		ast.Inspect(file, func(n ast.Node) bool {
			switch x := n.(type) {
			case *ast.FuncDecl:
				generic[x.Name.Name] = x.Type.TypeParams != nil
			case *ast.CallExpr:
				if f, ok := x.Fun.(*ast.Ident); ok {
					calls[f.Name]++
				}
			case *ast.LabeledStmt:
				labels[x.Label.Name] = true
			case *ast.BranchStmt:
				if x.Label != nil {
					jumps[x.Label.Name]++
				}
			}
			return true
		})
	}
	folded, jumped := 0, 0
	for name, n := range calls {
		if generic[name] {
			folded += n
		}
	}
	for name, n := range jumps {
		if labels[name] {
			jumped += n
		}
	}
	if folded < 3 || jumped < 3 {
		t.Errorf("%d calls of generic functions, %d jumps to labels", folded, jumped)
	}
}
