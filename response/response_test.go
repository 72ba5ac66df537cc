package response

import (
	"go/ast"
	"go/parser"
	"go/token"
	"math/big"
	"path/filepath"
	"slices"
	"strings"
	"testing"

	"tourbillon/api"
)

const (
	most    = 1<<63 - 1
	least   = -1 << 63
	full    = 1 << 62
	maxTime = api.MaxTime
)

// extremes are none of the numbers that a field, own, block or release may be. Some of them have the lower bits of one.
var extremes = []int{-1, -2, least, least + 1, least + 2, -1 << 31, -1 << 32, -1<<32 + 1, -maxTime, -1 << 53, maxTime + 1, maxTime + 2, 2*maxTime + 1, 1 << 53, full, full + 2, most - 1, most}

// answer is what Within or Bound returns.
type answer struct {
	n   int
	err api.Errno
}

func got(n int, err api.Errno) answer { return answer{n, err} }

func fine(n int) answer { return answer{n, api.OK} }

func fault(err api.Errno) answer { return answer{0, err} }

// call is the arguments that Within and Bound share.
type call struct {
	own, block, release int
	above, all          []Load
}

// within holds what Within returns against what is wanted.
func (c call) within(t *testing.T, n int, want answer) {
	t.Helper()
	if got := got(Within(c.own, c.block, c.release, c.above, c.all, n)); got != want {
		t.Fatalf("Within(%v, %d) = %v, want %v", c, n, got, want)
	}
}

// bound holds what Bound returns against what is wanted.
func (c call) bound(t *testing.T, limit int, want answer) {
	t.Helper()
	if got := got(Bound(c.own, c.block, c.release, c.above, c.all, limit)); got != want {
		t.Fatalf("Bound(%v, %d) = %v, want %v", c, limit, got, want)
	}
}

// refused holds that both calls refuse these arguments, whatever the last one is.
func (c call) refused(t *testing.T) {
	t.Helper()
	for _, n := range []int{least, -1, 0, 1, 5, maxTime, maxTime + 1, full, full + 1, most} {
		c.within(t, n, fault(api.ErrArg))
		c.bound(t, n, fault(api.ErrArg))
	}
}

// of returns an element that is never late.
func of(work, period int) Load { return Load{Work: work, Period: period} }

// late returns an element without work.
func late(period, jitter int) Load { return Load{Period: period, Jitter: jitter} }

// one returns a list of that element.
func one(l Load) []Load { return []Load{l} }

// many returns so many elements like l.
func many(n int, l Load) []Load { return slices.Repeat([]Load{l}, n) }

// example returns the arguments of the chapter's example.
func example() call { return call{3, 1, 0, one(of(2, 5)), nil} }

// mixed returns arguments of all kinds: with and without Work, with a Jitter less than, just and greater than the Period.
func mixed() call {
	return call{7, 2, 1, []Load{{3, 20, 0}, {1, 30, 29}, {0, 7, 7}, {2, 40, 100}}, []Load{{3, 20, 0}, {1, 30, 29}, {9, 50, 60}}}
}

// copied returns c with lists of its own.
func (c call) copied() call {
	c.above, c.all = slices.Clone(c.above), slices.Clone(c.all)
	return c
}

// source returns a function that returns a number less than n, in a fixed order.
func source() func(n int) int {
	state := uint64(1)
	return func(n int) int {
		state = state*6364136223846793005 + 1442695040888963407
		return int(state >> 33 % uint64(n))
	}
}

func number(n int) *big.Int { return big.NewInt(int64(n)) }

// right is what the chapter calls valid.
func (c call) right() bool {
	if len(c.above) >= 73 || len(c.all) >= 73 || min(c.own, c.block, c.release) < 0 || max(c.own, c.block, c.release) > maxTime {
		return false
	}
	for _, l := range slices.Concat(c.above, c.all) {
		if min(l.Work, l.Jitter) < 0 || l.Period < 1 || max(l.Work, l.Period, l.Jitter) > maxTime {
			return false
		}
	}
	return true
}

// ceil returns (n + Jitter) / Period, rounded up.
func (l Load) ceil(n int) *big.Int {
	ticks := new(big.Int).Add(number(n), number(l.Jitter))
	quotient, rest := ticks.QuoRem(ticks, number(l.Period), new(big.Int))
	if rest.Sign() > 0 {
		quotient.Add(quotient, number(1))
	}
	return quotient
}

// sum is the chapter's sum, without bound.
func (c call) sum(n int) *big.Int {
	sum := new(big.Int).Add(number(c.own), number(c.block))
	for _, l := range c.above {
		times := l.ceil(n)
		sum.Add(sum, times.Mul(times, number(l.Work)))
	}
	for _, l := range c.all {
		times := l.ceil(n)
		times.Add(times, number(1))
		sum.Add(sum, times.Mul(times, number(c.release)))
	}
	return sum
}

// wantWithin is what Within must return.
func (c call) wantWithin(n int) answer {
	if !c.right() || n < 0 || n > full {
		return fault(api.ErrArg)
	}
	sum := c.sum(n)
	if sum.Cmp(number(full)) > 0 {
		return fault(api.ErrOver)
	}
	return fine(int(sum.Int64()))
}

// wantBound is what Bound must return, and for how many numbers of ticks the sum is computed.
func (c call) wantBound(limit int) (answer, int) {
	if !c.right() || limit < 1 || limit > maxTime {
		return fault(api.ErrArg), 0
	}
	n := 1
	for step := 1; step <= 5000; step++ {
		sum := c.wantWithin(n)
		if sum.err != api.OK {
			return sum, step
		}
		if n >= sum.n {
			return fine(n), step
		}
		if sum.n > limit {
			return fault(api.ErrMiss), step
		}
		n = sum.n
	}
	return fault(api.ErrCap), 5000
}

// spelt holds all that the calls answer about these arguments against the chapter's words.
func (c call) spelt(t *testing.T, numbers ...int) {
	t.Helper()
	for _, n := range numbers {
		c.within(t, n, c.wantWithin(n))
		want, _ := c.wantBound(n)
		c.bound(t, n, want)
	}
}

// P16.1

func TestWithinOfTheExample(t *testing.T) {
	for n, want := range map[int]int{0: 4, 1: 6, 4: 6, 5: 6, 6: 8, 7: 8, 8: 8, 10: 8, 11: 10, 15: 10, 16: 12, 5000: 2004, 5001: 2006} {
		example().within(t, n, fine(want))
	}
	above := one(of(2, 5))
	for n, want := range map[int]int{0: 6, 1: 10, 5: 10, 6: 14, 10: 14, 11: 18} {
		call{3, 1, 2, above, above}.within(t, n, fine(want))
	}
	for n, want := range map[int]int{0: 6, 1: 6, 3: 6, 4: 8, 8: 8, 9: 10} {
		call{3, 1, 0, []Load{{2, 5, 2}}, nil}.within(t, n, fine(want))
	}
}

// TestWithinOfEachPart: of one part alone, with all others empty or 0.
func TestWithinOfEachPart(t *testing.T) {
	for _, n := range []int{0, 1, 2, 10, 11, maxTime, maxTime + 1, full - 1, full} {
		for _, amount := range []int{0, 1, 2, 7, maxTime - 1, maxTime} {
			call{amount, 0, 0, nil, nil}.within(t, n, fine(amount))
			call{0, amount, 0, nil, nil}.within(t, n, fine(amount))
			call{0, 0, amount, nil, nil}.within(t, n, fine(0))
			call{0, 0, amount, []Load{}, []Load{}}.within(t, n, fine(0))
			call{amount, amount, amount, nil, nil}.within(t, n, fine(2*amount))
			call{amount, 5, 0, []Load{}, []Load{}}.within(t, n, fine(amount+5))
		}
	}
	for n, times := range map[int]int{0: 0, 1: 1, 9: 1, 10: 1, 11: 2, 20: 2, 21: 3, 1000: 100} {
		for _, amount := range []int{0, 1, 3, maxTime} {
			call{0, 0, 0, one(of(amount, 10)), nil}.within(t, n, fine(amount*times))
			call{0, 0, amount, nil, one(of(0, 10))}.within(t, n, fine(amount*(times+1)))
			call{0, 0, 0, nil, one(of(amount, 10))}.within(t, n, fine(0))
			call{0, 0, amount, one(of(0, 10)), nil}.within(t, n, fine(0))
			call{5, 4, 2, one(of(amount, 10)), one(of(amount, 10))}.within(t, n, fine(9+amount*times+2*(times+1)))
			call{4, 5, 2, one(of(amount, 10)), one(of(7, maxTime))}.within(t, n, fine(9+amount*times+2*(min(n, 1)+1)))
		}
	}
}

// TestWithinAboutAPeriod: n + Jitter just a multiple of the Period, one less, and one more.
func TestWithinAboutAPeriod(t *testing.T) {
	for _, period := range []int{1, 2, 3, 10, 1000, 1 << 32, maxTime - 1, maxTime} {
		for _, jitter := range []int{0, 1, 2, 9, 10, 11, 999, 1 << 32, period - 1, period, min(period+1, maxTime), maxTime - 1, maxTime} {
			l := one(Load{3, period, jitter})
			for times := jitter / period; times < jitter/period+6; times++ {
				at := period*times - jitter
				before := times - 1/period // with a Period of 1, each tick has one of its own
				for n, want := range map[int]int{at - 1: before, at: times, at + 1: times + 1} {
					if n >= 0 {
						call{5, 1, 0, l, nil}.within(t, n, fine(6+3*want))
						call{5, 1, 7, nil, l}.within(t, n, fine(6+7*(want+1)))
						call{5, 1, 7, l, l}.within(t, n, fine(6+3*want+7*(want+1)))
					}
				}
			}
		}
	}
}

// TestWithinOfJitterAlone: within no tick, what is late may arrive.
func TestWithinOfJitterAlone(t *testing.T) {
	for _, c := range []struct{ period, jitter, times int }{
		{10, 0, 0}, {10, 1, 1}, {10, 9, 1}, {10, 10, 1}, {10, 11, 2}, {10, 20, 2}, {10, 21, 3},
		{1, 0, 0}, {1, 1, 1}, {1, 7, 7}, {1, maxTime, maxTime}, {maxTime, maxTime, 1}, {maxTime, 1, 1}, {maxTime - 1, maxTime, 2},
	} {
		call{0, 0, 0, []Load{{3, c.period, c.jitter}}, nil}.within(t, 0, fine(3*c.times))
		call{0, 0, 5, nil, []Load{{3, c.period, c.jitter}}}.within(t, 0, fine(5*(c.times+1)))
	}
}

// TestWithinLooksAtEachListForItself: how many are in the other one, and what they are, does not count.
func TestWithinLooksAtEachListForItself(t *testing.T) {
	c := call{3, 1, 2, []Load{{2, 5, 0}, {7, 30, 0}}, one(of(9, 4))}
	c.within(t, 6, fine(4+4+7+6))
	c.all = append(c.all, late(8, 3))
	c.within(t, 6, fine(4+4+7+6+6))
	c.above = nil
	c.within(t, 6, fine(4+6+6))
	c.all[0].Work = maxTime
	c.within(t, 6, fine(4+6+6))
	c.above, c.all = c.all, c.above
	c.within(t, 6, fine(4+2*maxTime))
}

// TestWithinOfAsManyAsThereMayBe: each of them counts; one more is too many, whatever it is.
func TestWithinOfAsManyAsThereMayBe(t *testing.T) {
	for n := range 73 {
		call{5, 1, 0, many(n, of(3, 10)), nil}.within(t, 15, fine(6+n*6))
		call{5, 1, 2, nil, many(n, of(3, 10))}.within(t, 15, fine(6+n*6))
		call{5, 1, 2, many(n, of(3, 10)), many(72-n, of(9, 10))}.within(t, 15, fine(6+n*6+(72-n)*6))
		call{5, 1, 2, many(72, of(3, 10)), many(n, late(10, 6))}.within(t, 15, fine(6+432+n*8))
		call{5, 1, 2, many(n, of(3, 10)), many(72, late(10, 6))}.within(t, 15, fine(6+n*6+576))
	}
	for _, n := range []int{73, 74, 100, 72 + 256, 5000} {
		for _, l := range []Load{of(3, 10), of(0, 1), of(maxTime, 1), {maxTime, maxTime, maxTime}, late(1, 0), {}} {
			call{5, 1, 2, many(n, l), nil}.refused(t)
			call{5, 1, 2, nil, many(n, l)}.refused(t)
			call{0, 0, 0, many(n, l), many(72, of(0, 9))}.refused(t)
			call{0, 0, 0, many(72, of(0, 9)), many(n, l)}.refused(t)
			call{0, 0, 0, many(n, l), many(n, l)}.refused(t)
		}
	}
}

// TestEachElementCounts: wherever it is.
func TestEachElementCounts(t *testing.T) {
	for place := range 72 {
		c := call{5, 1, 2, many(72, of(3, 10)), many(72, of(3, 10))}
		c.above[place] = Load{100, 7, 3}
		c.within(t, 15, fine(6+71*6+300+72*6))
		c.all[place] = Load{100, 7, 3}
		c.within(t, 15, fine(6+71*6+300+71*6+8))
		c.above[place] = of(0, 10)
		c.within(t, 15, fine(6+71*6+71*6+8))
	}
}

// TestWithinOfTheGreatestNumbers: all that may be is reckoned with, and no more than that.
func TestWithinOfTheGreatestNumbers(t *testing.T) {
	const m = maxTime
	call{m, m, m, many(72, of(m, m)), many(72, of(m, m))}.within(t, m, fine(218*m))
	call{m, m, m, many(72, of(m, m)), many(72, of(m, m))}.within(t, m+1, fine(362*m))
	call{m, m, m, many(72, Load{m, m, m}), many(72, Load{m, m, m})}.within(t, 0, fine(218*m))
	call{m, m, m, many(72, Load{m, m, m}), many(72, Load{m, m, m})}.within(t, m, fine(362*m))
	call{m, m, 0, one(Load{1, 1, m}), nil}.within(t, m, fine(4*m))
	call{0, 0, 0, one(Load{1, m, m}), nil}.within(t, full, fine(1<<22+1))
	call{0, 0, 0, one(Load{0, 1, m}), nil}.within(t, full, fine(0))
	call{0, 0, 0, nil, one(Load{m, 1, m})}.within(t, full, fine(0))
	call{m, m, m, many(72, Load{0, 1, m}), nil}.within(t, full, fine(2*m))
}

// TestWithinAtItsEnd: a term, and the sum, of just 2^62, and of one more.
func TestWithinAtItsEnd(t *testing.T) {
	over := fault(api.ErrOver)
	for power := range 41 {
		work, times := 1<<power, 1<<(62-power)
		c := call{0, 0, 0, one(of(work, 1)), nil}
		c.within(t, times-1, fine(full-work))
		c.within(t, times, fine(full))
		c.within(t, times+1, c.wantWithin(times+1))
		for _, extra := range []int{0, 1} {
			want := []answer{fine(full), over}[extra]
			call{extra, 0, 0, c.above, nil}.within(t, times, want)
			call{0, extra, 0, c.above, nil}.within(t, times, want)
			call{0, 0, 0, []Load{of(extra, maxTime), of(work, 1)}, nil}.within(t, times, want)
			call{0, 0, 0, []Load{of(work, 1), of(extra, maxTime)}, nil}.within(t, times, want)
			call{work - 1, extra, 0, c.above, nil}.within(t, times-1, []answer{fine(full - 1), fine(full)}[extra])
			call{work, extra, 0, c.above, nil}.within(t, times-1, want)
			call{extra, 0, work, nil, one(of(0, 1))}.within(t, times-1, want)
			call{0, 0, work, one(of(extra, maxTime)), one(of(0, 1))}.within(t, times-1, want)
			call{0, 0, work, nil, one(late(1, extra))}.within(t, times-1, want)
			call{0, 0, 0, one(Load{work, 1, extra}), nil}.within(t, times, want)
		}
	}
	for _, extra := range []int{0, 1} {
		want := []answer{fine(full), over}[extra]
		call{extra, 0, 0, many(2, of(1<<21, 1)), nil}.within(t, 1<<40, want)
		call{0, extra, 0, many(64, of(1<<20, 1)), nil}.within(t, 1<<36, want)
		call{1 << 25, extra, 1 << 20, many(32, of(1<<20, 1)), many(32, of(0, 1))}.within(t, 1<<36-1, want)
		call{maxTime, maxTime, 0, one(of(maxTime, 1)), one(late(1, extra))}.within(t, 1<<22-2, fine(full))
		call{maxTime, maxTime, extra, one(of(maxTime, 1)), one(late(1, 5))}.within(t, 1<<22-2, want)
		call{0, 0, 0, []Load{of(1, 1), of(0, 1)}, nil}.within(t, full, fine(full))
		call{0, 0, extra, []Load{of(1, 1), of(0, 1)}, one(late(maxTime, 0))}.within(t, full, want)
	}
}

// TestWithinThatWrapsRound: products and sums that 64 bits do not hold, or that look small in them.
func TestWithinThatWrapsRound(t *testing.T) {
	over := fault(api.ErrOver)
	for _, n := range []int{1<<22 + 1, 1 << 23, 1 << 24, 1<<24 + 1, 1 << 25, 3 << 23, 1 << 40, 1 << 60, full - 1, full} {
		for _, l := range []Load{of(maxTime, 1), {maxTime, 1, maxTime}, {maxTime - 1, 1, 5}} {
			for _, count := range []int{1, 2, 3, 4, 72} {
				call{0, 0, 0, many(count, l), nil}.within(t, n, over)
				call{0, 0, l.Work, nil, many(count, l)}.within(t, n, over)
				call{0, 0, l.Work, many(count, l), many(count, l)}.within(t, n, over)
			}
		}
	}
	for _, count := range []int{2, 3, 4, 5, 8, 12, 16, 64, 72} {
		call{0, 0, 0, many(count, of(maxTime, 1)), nil}.within(t, 1<<22, over)
		call{0, 0, maxTime, nil, many(count, of(0, 1))}.within(t, 1<<22-1, over)
		call{7, 0, 0, many(count, of(1, 1)), nil}.within(t, full, over)
	}
	// 2^62 and then 2^63 - 1, 2^63, or 3 * 2^62.
	call{0, 0, 0, []Load{of(1, 1), of(7, 1)}, nil}.within(t, full, over)
	call{0, 0, 0, []Load{of(1, 1), of(2, 1)}, nil}.within(t, full, over)
	call{0, 0, 0, []Load{of(1, 1), of(3, 1)}, nil}.within(t, full, over)
	call{0, 0, 0, []Load{of(3, 1), of(1, 1)}, nil}.within(t, full, over)
	call{0, 0, 0, []Load{of(49, 1), of(1, 1)}, nil}.within(t, most/49, over)
	call{0, 0, 0, []Load{of(49, 1)}, nil}.within(t, most/49, over)
	call{0, 0, 0, []Load{of(1, 1), of(49, 1)}, nil}.within(t, most/49, over)
}

// TestWithinOverWhereverItIs: a number that is too great is not taken back by what stands behind it.
func TestWithinOverWhereverItIs(t *testing.T) {
	for place := range 72 {
		c := call{1, 1, 1, many(72, of(1, maxTime)), many(72, of(1, maxTime))}
		c.within(t, 1<<24, fine(2+72+144))
		c.above[place] = of(maxTime, 1)
		c.within(t, 1<<21, c.wantWithin(1<<21))
		c.within(t, 1<<24, fault(api.ErrOver))
		c.above[place] = of(1, maxTime)
		c.release = maxTime
		c.all[place] = of(0, 1)
		c.within(t, 1<<21, c.wantWithin(1<<21))
		c.within(t, 1<<24, fault(api.ErrOver))
	}
}

// TestWithinOfWrongTicks: n is from 0 to 2^62.
func TestWithinOfWrongTicks(t *testing.T) {
	for _, c := range []call{{}, example(), mixed(), {maxTime, maxTime, maxTime, many(72, of(maxTime, 1)), many(72, of(maxTime, 1))}} {
		for _, n := range []int{-1, -2, least, least + 1, least + full, -1 << 32, -full, full + 1, full + 2, full + 1<<61, most - 1, most} {
			c.within(t, n, fault(api.ErrArg))
		}
		for _, n := range []int{0, 1, 2, 1 << 20, full - 1, full} {
			c.within(t, n, c.wantWithin(n))
		}
	}
	call{3, 1, 0, nil, nil}.within(t, 0, fine(4))
	call{3, 1, 0, nil, nil}.within(t, full, fine(4))
	example().within(t, full, fine(4+2*(full/5+1)))
}

// TestWrongArguments: at every place, alone and among others, also where another error would come.
func TestWrongArguments(t *testing.T) {
	lists := [][]Load{nil, one(of(2, 5)), mixed().above, many(72, of(maxTime, 1))}
	for _, n := range extremes {
		for _, l := range lists {
			for _, other := range []int{0, maxTime} {
				call{n, other, 0, l, l}.refused(t)
				call{other, n, 0, l, nil}.refused(t)
				call{0, other, n, nil, l}.refused(t)
				call{other, 0, n, l, l}.refused(t)
			}
			call{n, -n, 0, l, l}.refused(t)
			call{n, n, n, l, l}.refused(t)
		}
	}
}

// wrongs returns elements with one field that is wrong.
func wrongs() []Load {
	l := []Load{{0, 0, 0}, {1, 0, 1}, {maxTime, 0, maxTime}}
	for _, n := range extremes {
		l = append(l, Load{n, 1, 0}, Load{n, maxTime, maxTime}, Load{0, n, 0}, Load{1, n, maxTime}, Load{0, 1, n}, Load{maxTime, maxTime, n})
	}
	return l
}

func TestWrongElements(t *testing.T) {
	for _, w := range wrongs() {
		call{0, 0, 0, one(w), nil}.refused(t)
		call{0, 0, 0, nil, one(w)}.refused(t)
		for _, l := range [][]Load{one(of(2, 5)), mixed().above, many(71, of(maxTime, 1))} {
			for _, place := range []int{0, 1, len(l)} {
				with := slices.Insert(slices.Clone(l), place, w)
				call{1, 1, 1, with, nil}.refused(t)
				call{1, 1, 1, nil, with}.refused(t)
				call{maxTime, 0, maxTime, with, many(72, of(maxTime, 1))}.refused(t)
				call{maxTime, 0, maxTime, many(72, of(maxTime, 1)), with}.refused(t)
			}
		}
	}
}

// TestNumbersAtTheirBounds: they are not refused.
func TestNumbersAtTheirBounds(t *testing.T) {
	for _, work := range []int{0, 1, maxTime - 1, maxTime} {
		for _, period := range []int{1, 2, maxTime - 1, maxTime} {
			for _, jitter := range []int{0, 1, maxTime - 1, maxTime} {
				for way := range 32 {
					bit := func(n int) int { return way >> n & 1 * maxTime }
					c := call{bit(0), bit(1), bit(2), many(way>>3&1, Load{work, period, jitter}), many(way>>4&1, Load{work, period, jitter})}
					if !c.right() {
						t.Fatal(c)
					}
					c.spelt(t, 0, 1, 2, maxTime-1, maxTime, maxTime+1, 1<<60, full, full+1)
				}
			}
		}
	}
}

// P16.2

func TestBoundOfTheExample(t *testing.T) {
	for _, limit := range []int{8, 9, 20, 1000, maxTime} {
		example().bound(t, limit, fine(8))
	}
	for limit := 1; limit < 8; limit++ {
		example().bound(t, limit, fault(api.ErrMiss))
	}
	for jitter, want := range []int{8, 8, 8, 10, 10, 10, 12, 12, 12, 14} {
		c := example()
		c.above[0].Jitter = jitter
		c.bound(t, 20, fine(want))
		c.bound(t, want, fine(want))
		c.bound(t, want-1, fault(api.ErrMiss))
	}
}

func TestBoundOfSome(t *testing.T) {
	for _, c := range []struct {
		call call
		want answer
	}{
		{call{1, 0, 0, nil, nil}, fine(1)},
		{call{3, 0, 0, one(of(2, 5)), nil}, fine(5)},
		{call{3, 0, 0, one(of(2, 4)), nil}, fine(7)},
		{call{3, 0, 0, []Load{of(1, 4), of(2, 6)}, nil}, fine(10)},
		{call{4, 0, 0, []Load{of(1, 4), of(2, 6)}, nil}, fine(11)},
		{call{5, 0, 0, []Load{of(1, 4), of(2, 6)}, nil}, fine(12)},
		{call{6, 0, 0, []Load{of(1, 4), of(2, 6)}, nil}, fine(16)},
		{call{3, 4, 1, one(of(2, 20)), []Load{of(2, 20), of(7, 30)}}, fine(13)},
		{call{3, 4, 2, one(of(2, 20)), []Load{of(2, 20), of(7, 30)}}, fine(17)},
		{call{3, 4, 3, one(of(2, 20)), []Load{of(2, 20), of(7, 30)}}, fine(26)},
		{call{3, 4, 3, one(of(2, 20)), []Load{of(2, 20), {7, 30, 5}}}, fine(29)},
		{call{2, 0, 0, one(of(1, 2)), nil}, fine(4)},
		{call{1, 0, 0, one(of(1, 1)), nil}, fault(api.ErrCap)},
		{call{1, 0, 0, one(of(3, 2)), nil}, fault(api.ErrMiss)},
	} {
		c.call.bound(t, maxTime, c.want)
		want, _ := c.call.wantBound(maxTime)
		c.call.bound(t, maxTime, want)
		if c.want.err == api.OK {
			c.call.bound(t, c.want.n, c.want)
			c.call.bound(t, c.want.n+1, c.want)
			if c.want.n > 1 {
				c.call.bound(t, c.want.n-1, fault(api.ErrMiss))
			}
		}
	}
}

// TestBoundAtItsFirstNumber: one tick is enough if there is no more to do, also for a limit of 1.
func TestBoundAtItsFirstNumber(t *testing.T) {
	for _, limit := range []int{1, 2, 5, maxTime - 1, maxTime} {
		for _, c := range []call{
			{},
			{1, 0, 0, nil, nil},
			{0, 1, 0, nil, nil},
			{0, 0, maxTime, nil, nil},
			{0, 0, 0, one(of(1, 1)), nil},
			{0, 0, 0, one(of(1, maxTime)), nil},
			{1, 0, 0, many(72, late(1, maxTime)), many(72, Load{maxTime, 1, maxTime})},
			{0, 1, maxTime, many(72, late(1, maxTime)), nil},
		} {
			c.bound(t, limit, fine(1))
			if _, steps := c.wantBound(limit); steps != 1 {
				t.Errorf("%v: %d steps", c, steps)
			}
		}
	}
	for _, c := range []call{
		{2, 0, 0, nil, nil},
		{1, 1, 0, nil, nil},
		{0, 0, 1, nil, one(of(0, 9))},
		{1, 0, 0, one(of(1, 9)), nil},
		{0, 0, 0, one(Load{1, 1, 1}), nil},
		{maxTime, maxTime, 0, nil, nil},
	} {
		c.bound(t, 1, fault(api.ErrMiss))
	}
}

// TestBoundAboutTheLimit: of just limit, and of one more; also where only the last step comes to more.
func TestBoundAboutTheLimit(t *testing.T) {
	for _, limit := range []int{1, 2, 3, 10, 1000, 1 << 32, maxTime - 1, maxTime} {
		call{limit, 0, 0, nil, nil}.bound(t, limit, fine(limit))
		call{0, limit, 0, nil, nil}.bound(t, limit, fine(limit))
		call{limit - 1, 1, 0, nil, nil}.bound(t, limit, fine(limit))
		call{limit, 1, 0, nil, nil}.bound(t, limit, fault(api.ErrMiss))
		call{1, limit, 0, nil, nil}.bound(t, limit, fault(api.ErrMiss))
		if limit > 2 {
			call{limit - 3, 1, 0, one(of(2, maxTime)), nil}.bound(t, limit, fine(limit))
			call{limit - 3, 2, 0, one(of(2, maxTime)), nil}.bound(t, limit, fault(api.ErrMiss))
			call{limit - 3, 1, 1, nil, one(of(2, maxTime))}.bound(t, limit, fine(limit))
			call{limit - 3, 2, 1, nil, one(of(2, maxTime))}.bound(t, limit, fault(api.ErrMiss))
		}
	}
	for _, c := range []call{example(), mixed(), {4, 0, 0, []Load{of(1, 4), of(2, 6)}, nil}, {6, 0, 0, []Load{of(1, 4), of(2, 6)}, nil}} {
		want, steps := c.wantBound(maxTime)
		if want.err != api.OK || steps < 3 {
			t.Fatal(want, steps)
		}
		for limit := 1; limit < want.n; limit++ {
			c.bound(t, limit, fault(api.ErrMiss))
		}
		for limit := want.n; limit < want.n+100; limit++ {
			c.bound(t, limit, want)
		}
	}
}

// TestBoundOfWrongLimits: limit is from 1 to MaxTime.
func TestBoundOfWrongLimits(t *testing.T) {
	for _, c := range []call{{}, {2, 0, 0, nil, nil}, example(), mixed(), {maxTime, 0, 0, many(72, of(maxTime, 1)), nil}, {1, 0, 0, one(of(1, 1)), nil}} {
		for _, limit := range append(slices.Clone(extremes), 0) {
			c.bound(t, limit, fault(api.ErrArg))
		}
		for _, limit := range []int{1, maxTime} {
			want, _ := c.wantBound(limit)
			c.bound(t, limit, want)
			if want.err == api.ErrArg {
				t.Fatal(c)
			}
		}
	}
}

// slow returns arguments for which Bound computes the sum once more than there are ticks in the Period, each time for a few ticks more.
func slow(period int) call { return call{period, 0, 0, one(of(period-1, period)), nil} }

// slowRelease is as slow, by release alone.
func slowRelease(period int) call {
	return call{1, 0, period - 1, nil, one(of(0, period))}
}

// TestBoundOfMaxSteps: in the last step it may still be found, or come to more than limit.
func TestBoundOfMaxSteps(t *testing.T) {
	for _, period := range []int{2, 10, 4998, 4999} {
		for _, c := range []call{slow(period), slowRelease(period)} {
			want := fine(period * period)
			if n, steps := c.wantBound(maxTime); steps != period+1 || n != want {
				t.Fatalf("%d steps and %v of a period of %d", steps, n, period)
			}
			c.bound(t, maxTime, want)
			c.bound(t, want.n, want)
			c.bound(t, want.n-1, fault(api.ErrMiss))
		}
	}
	for _, period := range []int{5000, 5001, 10000, maxTime} {
		for _, c := range []call{slow(period), slowRelease(period)} {
			want := fault(api.ErrCap)
			if period == maxTime {
				want = fault(api.ErrMiss)
			}
			c.bound(t, maxTime, want)
		}
	}
	// The last sum is for 5000 * 5000 - 4999 ticks, and is 5000 * 5000.
	slow(5000).bound(t, 5000*5000, fault(api.ErrCap))
	slow(5000).bound(t, 5000*5000-1, fault(api.ErrMiss))
	// In step n, the sum for n is n + 1.
	c := call{1, 0, 0, one(of(1, 1)), nil}
	for _, limit := range []int{1, 2, 10, 4998, 4999, 5000} {
		c.bound(t, limit, fault(api.ErrMiss))
	}
	for _, limit := range []int{5001, 5002, 10000, maxTime} {
		c.bound(t, limit, fault(api.ErrCap))
	}
	call{1, 0, 0, many(72, of(1, 72)), nil}.bound(t, maxTime, fault(api.ErrCap))
	call{0, 0, 1, nil, many(72, of(1, 72))}.bound(t, maxTime, fault(api.ErrCap))
	call{0, 0, 0, many(72, of(1, 72)), nil}.bound(t, maxTime, fine(72))
}

// TestBoundThatIsOver: the error of Within is returned, in the first step and in a later one.
func TestBoundThatIsOver(t *testing.T) {
	over := fault(api.ErrOver)
	for _, limit := range []int{1, 5, maxTime} {
		call{0, 0, 0, one(Load{maxTime, 1, maxTime}), nil}.bound(t, limit, over)
		call{0, 0, maxTime, nil, one(Load{0, 1, maxTime})}.bound(t, limit, over)
		call{maxTime, maxTime, maxTime, many(72, Load{maxTime, 1, maxTime}), many(72, Load{maxTime, 1, maxTime})}.bound(t, limit, over)
		// Just 2^62 of the first number is no such error.
		call{0, 0, 0, one(Load{maxTime, 1, 1<<22 - 1}), nil}.bound(t, limit, fault(api.ErrMiss))
		call{0, 0, 0, one(Load{maxTime, 1, 1 << 22}), nil}.bound(t, limit, over)
		call{0, 0, maxTime, nil, one(Load{0, 1, 1<<22 - 2})}.bound(t, limit, fault(api.ErrMiss))
		call{1, 0, maxTime, nil, one(Load{0, 1, 1<<22 - 2})}.bound(t, limit, over)
	}
	// In the second step, 2^39 + 2^23 ticks are too many for one that comes in each of them.
	for place := range 3 {
		c := call{1 << 39, 0, 0, many(3, of(0, 1)), nil}
		c.above[place] = of(1<<23, 1)
		want, steps := c.wantBound(maxTime)
		if want != over || steps != 2 {
			t.Fatal(want, steps)
		}
		c.bound(t, maxTime, over)
		c.bound(t, 1<<39+1<<23, over)
		c.bound(t, 1<<39+1<<23-1, fault(api.ErrMiss))
	}
}

// TestErrorsInTheirOrder: wrong arguments first, then what Within returns, then the limit, then the steps.
func TestErrorsInTheirOrder(t *testing.T) {
	over := Load{maxTime, 1, maxTime}
	call{-1, 0, 0, one(over), nil}.bound(t, 1, fault(api.ErrArg))
	call{0, 0, 0, []Load{over, {0, 0, 0}}, nil}.bound(t, 1, fault(api.ErrArg))
	call{0, 0, 0, one(over), one(Load{0, 1, -1})}.bound(t, 1, fault(api.ErrArg))
	call{0, 0, 0, one(over), nil}.bound(t, 0, fault(api.ErrArg))
	call{0, 0, 0, one(over), nil}.within(t, full+1, fault(api.ErrArg))
	call{0, 0, 0, one(over), nil}.within(t, -maxTime, fault(api.ErrArg))
	call{0, 0, 0, one(over), one(Load{-1, 1, 1})}.within(t, full, fault(api.ErrArg))
	call{2, 0, 0, nil, nil}.bound(t, 0, fault(api.ErrArg))
	call{2, 0, 0, one(over), nil}.bound(t, 1, fault(api.ErrOver))
	call{1, 0, 0, one(of(1, 1)), one(late(0, 1))}.bound(t, maxTime, fault(api.ErrArg))
	call{1, 0, 0, one(of(1, 1)), nil}.bound(t, 5000, fault(api.ErrMiss))
	call{1, 0, 0, one(of(1, 1)), nil}.bound(t, 5001, fault(api.ErrCap))
	slow(5000).bound(t, 5000*5000-1, fault(api.ErrMiss))
}

// TestBoundOfAsManyAsThereMayBe: each element of both lists counts.
func TestBoundOfAsManyAsThereMayBe(t *testing.T) {
	for n := range 73 {
		call{5, 1, 0, many(n, of(3, 1000)), nil}.bound(t, maxTime, fine(6+3*n))
		call{5, 1, 2, nil, many(n, of(9, 1000))}.bound(t, maxTime, fine(6+4*n))
		call{5, 1, 2, many(n, of(3, 1000)), many(72-n, late(1000, 300))}.bound(t, 1000, fine(6+3*n+4*(72-n)))
	}
	c := call{maxTime / 256, maxTime / 256, maxTime / 512, many(72, of(maxTime/256, maxTime)), many(72, of(maxTime, maxTime))}
	c.bound(t, maxTime, fine(146*(maxTime/256)))
	c.bound(t, 145*(maxTime/256), fault(api.ErrMiss))
}

// drawn returns arguments with Periods up to limit; the load is mostly less than the whole.
func drawn(number func(n int) int, limit int) call {
	list := func(n int) []Load {
		var l []Load
		for range n {
			period := 1 + number(limit)
			l = append(l, Load{number(period/n + 2), period, number(2) * number(2*period+1)})
		}
		return l
	}
	return call{number(limit), number(1 + limit/3), number(2) * number(2+limit/20), list(number(5)), list(number(5))}
}

// small returns all elements of small numbers.
func small() []Load {
	var l []Load
	for work := range 3 {
		for _, period := range []int{1, 2, 3, 5} {
			for _, jitter := range []int{0, 1, 2, 5} {
				l = append(l, Load{work, period, jitter})
			}
		}
	}
	return l
}

// served lets a core work tick by tick, and returns the first tick at whose end all is done that came before; 0 if that is not within limit ticks. What is late is there at the beginning.
func (c call) served(limit int) int {
	left := c.own + c.block + len(c.all)*c.release
	for now := range limit {
		for _, l := range c.above {
			left += l.Work * l.arriving(now)
		}
		for _, l := range c.all {
			left += c.release * l.arriving(now)
		}
		if left = max(left-1, 0); left == 0 {
			return now + 1
		}
	}
	return 0
}

// arriving returns how many come at this tick, if each of them is as late as it may be until the first tick, and none from then on.
func (l Load) arriving(now int) int {
	count := 0
	for at := -l.Jitter; at <= now; at += l.Period {
		if max(at, 0) == now {
			count++
		}
	}
	return count
}

// TestEverySmallLoad: an element above, and one of all, in every way, held against a core that works tick by tick.
func TestEverySmallLoad(t *testing.T) {
	for _, above := range small() {
		for _, other := range small() {
			for way := range 12 {
				c := call{way % 3, way / 6, way / 3 % 2, one(above), one(other)}
				for n := range 8 {
					c.within(t, n, c.wantWithin(n))
				}
				want := fine(c.served(100))
				if want.n == 0 {
					want = fault(api.ErrMiss)
				}
				c.bound(t, 100, want)
			}
		}
	}
}

func TestLoadsInAFixedOrder(t *testing.T) {
	number := source()
	found := map[api.Errno]int{}
	for _, limit := range []int{3, 10, 30, 100, 1000, 100000} {
		for range 1000 {
			c := drawn(number, limit)
			c.spelt(t, 1+number(limit), 1+number(50*limit), 1+number(maxTime), full-number(1000))
			want, _ := c.wantBound(50 * limit)
			c.bound(t, 50*limit, want)
			found[want.err]++
		}
	}
	if found[api.OK] < 1000 || found[api.ErrMiss] < 100 {
		t.Error(found)
	}
}

// TestGreatLoadsInAFixedOrder: of numbers of all sizes, with as many elements as there may be.
func TestGreatLoadsInAFixedOrder(t *testing.T) {
	number := source()
	size := func(limit int) int { return min(limit, 1+number(1<<31-1)<<9>>number(40)) }
	found := map[api.Errno]int{}
	for range 1500 {
		spare := 1 << number(60)
		list := func(n int) []Load {
			var l []Load
			for range n {
				l = append(l, Load{size(maxTime/spare + 1), size(maxTime), number(2) * size(maxTime)})
			}
			return l
		}
		c := call{size(maxTime), size(maxTime), size(maxTime/spare + 1), list(number(73)), list(number(73))}
		c.spelt(t, size(maxTime), size(maxTime), maxTime)
		for _, n := range []int{size(maxTime) << 10, size(maxTime) << 21, full} {
			want := c.wantWithin(n)
			c.within(t, n, want)
			found[want.err]++
		}
		want, _ := c.wantBound(maxTime)
		found[want.err]++
	}
	for _, err := range []api.Errno{api.OK, api.ErrOver, api.ErrMiss} {
		if found[err] < 100 {
			t.Error(found)
		}
	}
}

// P16.3

// TestBoundIsTheSmallest: within so many ticks all that may arrive can be done, and not within any fewer; a core that works tick by tick takes as many.
func TestBoundIsTheSmallest(t *testing.T) {
	number := source()
	tried := 0
	for range 5000 {
		c := drawn(number, 40)
		want, steps := c.wantBound(2000)
		c.bound(t, 2000, want)
		if want.err != api.OK {
			if n := c.served(1900); n != 0 {
				t.Fatalf("%v: %v, but served within %d ticks", c, want, n)
			}
			continue
		}
		for n := 1; n <= want.n; n++ {
			sum, err := Within(c.own, c.block, c.release, c.above, c.all, n)
			if enough := sum <= n; err != api.OK || enough != (n == want.n) {
				t.Fatalf("of %v within %d ticks %v, and Bound is %v", c, n, sum, want)
			}
		}
		if n := c.served(2000); n != want.n {
			t.Fatalf("%v: served within %d ticks, and Bound is %v", c, n, want)
		}
		tried += min(steps, 3) / 3
	}
	if tried < 1000 {
		t.Errorf("only %d tried", tried)
	}
}

// worse returns lists that are like l, but with more of one thing each.
func worse(l []Load, number func(n int) int) [][]Load {
	lists := [][]Load{append(slices.Clone(l), Load{number(3), 1 + number(50), number(50)})}
	for i, e := range l {
		harder, later, oftener := slices.Clone(l), slices.Clone(l), slices.Clone(l)
		harder[i].Work += 1 + number(5)
		later[i].Jitter += 1 + number(5)
		oftener[i].Period = 1 + number(e.Period)
		lists = append(lists, harder, later, oftener)
	}
	return lists
}

// worse returns arguments that are like c, but with more of one thing each.
func (c call) worse(number func(n int) int) []call {
	calls := []call{c, c, c}
	calls[0].own += 1 + number(5)
	calls[1].block += 1 + number(5)
	calls[2].release += 1 + number(5)
	for _, l := range worse(c.above, number) {
		calls = append(calls, call{c.own, c.block, c.release, l, c.all})
	}
	for _, l := range worse(c.all, number) {
		calls = append(calls, call{c.own, c.block, c.release, c.above, l})
	}
	return calls
}

// TestMoreIsNeverLess: with more of anything, neither result is smaller, and what was missed stays missed.
func TestMoreIsNeverLess(t *testing.T) {
	number := source()
	found := map[api.Errno]int{}
	for range 3000 {
		c := drawn(number, 40)
		n := number(100)
		work, _ := Within(c.own, c.block, c.release, c.above, c.all, n)
		limit := 1 + number(400)
		end, err := Bound(c.own, c.block, c.release, c.above, c.all, limit)
		found[err]++
		if later, _ := Within(c.own, c.block, c.release, c.above, c.all, n+number(20)); later < work {
			t.Fatalf("Within(%v, %d) is %d, and later %d", c, n, work, later)
		}
		if err == api.OK {
			c.bound(t, end, fine(end))
			c.bound(t, limit+number(1000), fine(end))
		}
		for _, w := range c.worse(number) {
			if more, _ := Within(w.own, w.block, w.release, w.above, w.all, n); more < work {
				t.Fatalf("Within(%v, %d) is %d, and of %v %d", c, n, work, w, more)
			}
			more, fails := Bound(w.own, w.block, w.release, w.above, w.all, limit)
			if fails == api.OK && (err != api.OK || more < end) {
				t.Fatalf("Bound(%v, %d) is %d, %d, and of %v %d", c, limit, end, err, w, more)
			}
		}
	}
	if found[api.OK] < 500 || found[api.ErrMiss] < 500 {
		t.Error(found)
	}
}

// TestOrderOfElementsDoesNotCount: round about and backwards, all is as before.
func TestOrderOfElementsDoesNotCount(t *testing.T) {
	number := source()
	for range 500 {
		c := drawn(number, 60)
		n := 1 + number(200)
		work, end := got(Within(c.own, c.block, c.release, c.above, c.all, n)), got(Bound(c.own, c.block, c.release, c.above, c.all, 5*n))
		o := c.copied()
		for i := range 10 {
			if len(o.above) > 0 {
				o.above = append(o.above[1:], o.above[0])
			}
			if len(o.all) > 0 {
				o.all = append(o.all[1:], o.all[0])
			}
			if i == 5 {
				slices.Reverse(o.above)
				slices.Reverse(o.all)
			}
			o.within(t, n, work)
			o.bound(t, 5*n, end)
		}
	}
}

// P2 to P5

// TestArgumentsAreNotChanged: nor what stands behind the lists' lengths, which is not looked at.
func TestArgumentsAreNotChanged(t *testing.T) {
	whole := mixed()
	whole.above = append(whole.above, Load{-1, 0, most}, of(maxTime, 1))
	whole.all = append(whole.all, Load{-1, 0, most}, of(maxTime, 1))
	c := whole.copied()
	c.above, c.all = c.above[:4], c.all[:3]
	want := mixed().wantWithin(50)
	for range 3 {
		c.within(t, 50, want)
		c.spelt(t, 0, 1, 15, 50, 1000, maxTime, full)
		call{-1, 0, 0, c.above, c.all}.refused(t)
		call{1, 0, 0, c.above[:6], c.all}.refused(t)
		call{1, 0, 0, c.above, c.all[:5]}.refused(t)
	}
	if !slices.Equal(c.above[:6], whole.above) || !slices.Equal(c.all[:5], whole.all) {
		t.Errorf("elements were changed: %v, want %v", c, whole)
	}
}

// TestListsMayBeOne: or pieces of one.
func TestListsMayBeOne(t *testing.T) {
	list := mixed().above
	for i := range len(list) + 1 {
		c := call{7, 2, 1, list[:i], list}
		c.spelt(t, 1, 20, 41, 100, maxTime)
		c = call{7, 2, 1, list[i:], list[:i]}
		c.spelt(t, 1, 20, 41, 100, maxTime)
	}
}

// TestCallsAreApart: what a call answers does not hang on those before it, also if they were given the same memory.
func TestCallsAreApart(t *testing.T) {
	c := example()
	for range 3 {
		c.bound(t, 20, fine(8))
		c.above[0].Work = 3
		c.bound(t, 20, fine(10))
		c.within(t, 11, fine(13))
		c.above[0].Work = -1
		c.refused(t)
		c.above[0] = Load{2, 5, 3}
		c.bound(t, 20, fine(10))
		c.above[0].Jitter = 0
		c.within(t, 11, fine(10))
	}
}

// Ways

// sources returns the files of the package that are no tests.
func sources(t *testing.T) map[string]*ast.File {
	t.Helper()
	names, err := filepath.Glob("*.go")
	if err != nil || len(names) == 0 {
		t.Fatal(names, err)
	}
	files := map[string]*ast.File{}
	for _, name := range names {
		if strings.HasSuffix(name, "_test.go") {
			continue
		}
		file, err := parser.ParseFile(token.NewFileSet(), name, nil, 0)
		if err != nil {
			t.Fatal(err)
		}
		files[name] = file
	}
	return files
}

// TestImports: the chapter lets the layer import qarith and api only, of the project's packages.
func TestImports(t *testing.T) {
	for name, file := range sources(t) {
		for _, i := range file.Imports {
			if path := i.Path.Value; path != `"tourbillon/api"` && path != `"tourbillon/qarith"` && path != `"iter"` {
				t.Errorf("%s imports %s", name, path)
			}
		}
	}
}

// called returns the name of what x calls; "" if it calls nothing that has one.
func called(x ast.Expr) string {
	c, ok := x.(*ast.CallExpr)
	if !ok {
		return ""
	}
	switch f := c.Fun.(type) {
	case *ast.Ident:
		return f.Name
	case *ast.SelectorExpr:
		return f.Sel.Name
	}
	return ""
}

// TestElementsAreVisitedAndTheSumIsPassed: what is ranged over are functions, and the sum is a parameter that is one.
func TestElementsAreVisitedAndTheSumIsPassed(t *testing.T) {
	visits, ranged, passed := map[string]bool{}, map[string]bool{}, map[string]bool{}
	calls := map[string]bool{}
	for _, file := range sources(t) {
		ast.Inspect(file, func(n ast.Node) bool {
			switch x := n.(type) {
			case *ast.FuncDecl:
				for _, p := range x.Type.Params.List {
					if _, ok := p.Type.(*ast.FuncType); ok {
						passed[p.Names[0].Name] = true
					}
				}
				ast.Inspect(x, func(n ast.Node) bool {
					visits[x.Name.Name] = visits[x.Name.Name] || n != nil && isYield(n)
					return true
				})
			case *ast.RangeStmt:
				ranged[called(x.X)] = true
			case *ast.CallExpr:
				calls[called(x)] = true
			}
			return true
		})
	}
	over, sums := 0, 0
	for name := range ranged {
		if visits[name] {
			over++
		}
	}
	for name := range passed {
		if calls[name] {
			sums++
		}
	}
	if over < 2 || sums < 1 {
		t.Errorf("%d functions ranged over, %d passed", over, sums)
	}
}

// isYield reports whether n is a call of what a range over a function hands to it.
func isYield(n ast.Node) bool {
	c, ok := n.(*ast.CallExpr)
	return ok && called(c) == "yield"
}
