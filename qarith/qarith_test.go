package qarith

import (
	"go/parser"
	"go/token"
	"math/big"
	"path/filepath"
	"slices"
	"strings"
	"testing"

	"tourbillon/api"
)

const (
	most  = 1<<63 - 1
	least = -1 << 63
)

// edges are the numbers at which halves, words and signs turn over, and some ordinary ones.
func edges() []int {
	return []int{
		least, least + 1, least / 2, -1<<32 - 1, -1 << 32, -1 << 31, -3037000500, -7, -2, -1,
		0, 1, 2, 3, 7, 10, 1000, 1<<31 - 1, 1 << 31, 3037000499, 3037000500,
		1<<32 - 1, 1 << 32, 1<<32 + 1, 1 << 40, 1<<62 - 1, 1 << 62, 1<<62 + 1, most / 3, most - 1, most,
	}
}

func natural() []int {
	return slices.DeleteFunc(edges(), func(n int) bool { return n < 0 })
}

func number(n int) *big.Int { return big.NewInt(int64(n)) }

// fit is what a call must answer whose exact result is n.
func fit(n *big.Int) (int, api.Errno) {
	if !n.IsInt64() {
		return 0, api.ErrOver
	}
	return int(n.Int64()), api.OK
}

// ceil returns a / b for a not negative and b positive, rounded up.
func ceil(a, b *big.Int) *big.Int {
	quotient, rest := new(big.Int).QuoRem(a, b, new(big.Int))
	if rest.Sign() != 0 {
		quotient.Add(quotient, number(1))
	}
	return quotient
}

type answer struct {
	n   int
	err api.Errno
}

func got(n int, err api.Errno) answer { return answer{n, err} }

func wrong() answer { return answer{0, api.ErrArg} }

func over() answer { return answer{0, api.ErrOver} }

// P1.1

func TestAddSubMulAtEdges(t *testing.T) {
	for _, a := range edges() {
		for _, b := range edges() {
			x, y := number(a), number(b)
			if g, w := got(Add(a, b)), got(fit(new(big.Int).Add(x, y))); g != w {
				t.Errorf("Add(%d, %d) = %v, want %v", a, b, g, w)
			}
			if g, w := got(Sub(a, b)), got(fit(new(big.Int).Sub(x, y))); g != w {
				t.Errorf("Sub(%d, %d) = %v, want %v", a, b, g, w)
			}
			if g, w := got(Mul(a, b)), got(fit(new(big.Int).Mul(x, y))); g != w {
				t.Errorf("Mul(%d, %d) = %v, want %v", a, b, g, w)
			}
		}
	}
}

func TestAddSubMulByHand(t *testing.T) {
	for _, c := range []struct {
		name      string
		got, want answer
	}{
		{"Add ordinary", got(Add(2, 3)), answer{5, api.OK}},
		{"Add over", got(Add(most, 1)), over()},
		{"Add under", got(Add(least, -1)), over()},
		{"Add at the greatest", got(Add(most-1, 1)), answer{most, api.OK}},
		{"Add at the least", got(Add(least+1, -1)), answer{least, api.OK}},
		{"Add both ends", got(Add(least, most)), answer{-1, api.OK}},
		{"Sub ordinary", got(Sub(2, 3)), answer{-1, api.OK}},
		{"Sub of the least", got(Sub(0, least)), over()},
		{"Sub of the least from -1", got(Sub(-1, least)), answer{most, api.OK}},
		{"Sub under", got(Sub(least, 1)), over()},
		{"Sub of itself", got(Sub(least, least)), answer{0, api.OK}},
		{"Mul ordinary", got(Mul(-6, 7)), answer{-42, api.OK}},
		{"Mul of the least", got(Mul(least, -1)), over()},
		{"Mul of the least, turned", got(Mul(-1, least)), over()},
		{"Mul to the least", got(Mul(-1<<32, 1<<31)), answer{least, api.OK}},
		{"Mul to one below the least", got(Mul(-3, 3074457345618258603)), over()},
		{"Mul by one", got(Mul(least, 1)), answer{least, api.OK}},
		{"Mul by nought", got(Mul(least, 0)), answer{0, api.OK}},
		{"Mul to 2^62", got(Mul(1<<32, 1<<30)), answer{1 << 62, api.OK}},
		{"Mul to 2^63", got(Mul(1<<32, 1<<31)), over()},
		{"Mul to 2^64", got(Mul(1<<32, 1<<32)), over()},
		{"Mul to 2^126", got(Mul(least, least)), over()},
	} {
		if c.got != c.want {
			t.Errorf("%s: %v, want %v", c.name, c.got, c.want)
		}
	}
}

func TestCeilDiv(t *testing.T) {
	for _, a := range edges() {
		for _, b := range edges() {
			want := wrong()
			if a >= 0 && b > 0 {
				want = got(fit(ceil(number(a), number(b))))
			}
			if g := got(CeilDiv(a, b)); g != want {
				t.Errorf("CeilDiv(%d, %d) = %v, want %v", a, b, g, want)
			}
		}
	}
	if g := got(CeilDiv(7, 2)); g != (answer{4, api.OK}) {
		t.Error(g)
	}
	if g := got(CeilDiv(most, 2)); g != (answer{1 << 62, api.OK}) {
		t.Error(g)
	}
}

func wantMulDiv(a, b, c int, up bool) answer {
	if a < 0 || b < 0 || c <= 0 {
		return wrong()
	}
	product := new(big.Int).Mul(number(a), number(b))
	if up {
		return got(fit(ceil(product, number(c))))
	}
	return got(fit(product.Quo(product, number(c))))
}

func TestMulDivAtEdges(t *testing.T) {
	for _, a := range edges() {
		for _, b := range edges() {
			for _, c := range edges() {
				for _, up := range []bool{false, true} {
					if g, w := got(MulDiv(a, b, c, up)), wantMulDiv(a, b, c, up); g != w {
						t.Errorf("MulDiv(%d, %d, %d, %v) = %v, want %v", a, b, c, up, g, w)
					}
				}
			}
		}
	}
}

func TestMulDivByHand(t *testing.T) {
	for _, c := range []struct {
		name      string
		got, want answer
	}{
		{"product over 64 bits", got(MulDiv(1<<62, 6, 4, false)), answer{6917529027641081856, api.OK}},
		{"up", got(MulDiv(7, 1, 2, true)), answer{4, api.OK}},
		{"down", got(MulDiv(7, 1, 2, false)), answer{3, api.OK}},
		{"up without a rest", got(MulDiv(8, 1, 2, true)), answer{4, api.OK}},
		{"greatest squared over itself", got(MulDiv(most, most, most, true)), answer{most, api.OK}},
		{"over 64 bits", got(MulDiv(most, most, 1, false)), over()},
		{"2^63", got(MulDiv(1<<62, 2, 1, false)), over()},
		{"wrong before over", got(MulDiv(most, most, 0, false)), wrong()},
		{"nought over the greatest", got(MulDiv(0, most, most, true)), answer{0, api.OK}},
		{"beyond, but below 2^64", got(MulDiv(most, 3, 2, false)), over()},
		// (2^62 + 1) * (2^62 - 1) / 2^61 = 2^63 - 1 / 2^61: down it is the greatest number, up one more.
		{"the greatest, down", got(MulDiv(1<<62+1, 1<<62-1, 1<<61, false)), answer{most, api.OK}},
		{"one beyond, up", got(MulDiv(1<<62+1, 1<<62-1, 1<<61, true)), over()},
		// Over 2^60 it is 2^64 - 1 / 2^60: down 2^64 - 1, which must not be rounded up to nought.
		{"2^64 - 1 and a rest, up", got(MulDiv(1<<62+1, 1<<62-1, 1<<60, true)), over()},
	} {
		if c.got != c.want {
			t.Errorf("%s: %v, want %v", c.name, c.got, c.want)
		}
	}
}

// P1.2

func TestGcdAndLcm(t *testing.T) {
	for _, a := range edges() {
		for _, b := range edges() {
			gcd, lcm := wrong(), wrong()
			if a >= 0 && b >= 0 {
				divisor := new(big.Int).GCD(nil, nil, number(a), number(b))
				gcd, lcm = got(fit(divisor)), answer{0, api.OK}
				if a > 0 && b > 0 {
					multiple := new(big.Int).Mul(number(a), number(b))
					lcm = got(fit(multiple.Quo(multiple, divisor)))
				}
			}
			if g := got(Gcd(a, b)); g != gcd {
				t.Errorf("Gcd(%d, %d) = %v, want %v", a, b, g, gcd)
			}
			if g := got(Lcm(a, b)); g != lcm {
				t.Errorf("Lcm(%d, %d) = %v, want %v", a, b, g, lcm)
			}
		}
	}
}

func TestGcdAndLcmByHand(t *testing.T) {
	for _, c := range []struct {
		name      string
		got, want answer
	}{
		{"Gcd(12, 18)", got(Gcd(12, 18)), answer{6, api.OK}},
		{"Gcd(0, 0)", got(Gcd(0, 0)), answer{0, api.OK}},
		{"Gcd(0, greatest)", got(Gcd(0, most)), answer{most, api.OK}},
		{"Gcd(least, 0)", got(Gcd(least, 0)), wrong()},
		{"Lcm(4, 6)", got(Lcm(4, 6)), answer{12, api.OK}},
		{"Lcm(0, 0)", got(Lcm(0, 0)), answer{0, api.OK}},
		{"Lcm(0, 5)", got(Lcm(0, 5)), answer{0, api.OK}},
		{"Lcm(5, 0)", got(Lcm(5, 0)), answer{0, api.OK}},
		{"Lcm(0, -1)", got(Lcm(0, -1)), wrong()},
		{"Lcm of the greatest and itself", got(Lcm(most, most)), answer{most, api.OK}},
		{"Lcm of the greatest and 2", got(Lcm(most, 2)), over()},
		// The product is 2^123, the multiple is not.
		{"Lcm of powers", got(Lcm(1<<61, 1<<62)), answer{1 << 62, api.OK}},
	} {
		if c.got != c.want {
			t.Errorf("%s: %v, want %v", c.name, c.got, c.want)
		}
	}
}

func TestCmpAtEdges(t *testing.T) {
	for _, a := range natural() {
		for _, b := range natural() {
			for _, c := range natural() {
				for _, d := range natural() {
					want := wrong()
					if b > 0 && d > 0 {
						left := new(big.Int).Mul(number(a), number(d))
						want = answer{left.Cmp(new(big.Int).Mul(number(c), number(b))), api.OK}
					}
					if g := got(Cmp(a, b, c, d)); g != want {
						t.Fatalf("Cmp(%d, %d, %d, %d) = %v, want %v", a, b, c, d, g, want)
					}
				}
			}
		}
	}
}

func TestCmpByHand(t *testing.T) {
	for _, c := range []struct {
		name      string
		got, want answer
	}{
		{"greater", got(Cmp(1, 3, 333, 1000)), answer{1, api.OK}},
		{"less", got(Cmp(333, 1000, 1, 3)), answer{-1, api.OK}},
		{"equal", got(Cmp(2, 4, 3, 6)), answer{0, api.OK}},
		{"noughts", got(Cmp(0, 1, 0, most)), answer{0, api.OK}},
		{"near one", got(Cmp(most-1, most, most-2, most-1)), answer{1, api.OK}},
		{"a negative", got(Cmp(-1, 1, 1, 1)), wrong()},
		{"b nought", got(Cmp(1, 0, 1, 1)), wrong()},
		{"b negative", got(Cmp(1, -1, 1, 1)), wrong()},
		{"c negative", got(Cmp(1, 1, least, 1)), wrong()},
		{"d nought", got(Cmp(1, 1, 1, 0)), wrong()},
		{"d negative", got(Cmp(1, 1, 1, least)), wrong()},
	} {
		if c.got != c.want {
			t.Errorf("%s: %v, want %v", c.name, c.got, c.want)
		}
	}
}

// P1.3

func TestLoadByHand(t *testing.T) {
	for _, c := range []struct {
		name       string
		work, time []int
		want       answer
	}{
		{"nothing", nil, nil, answer{0, api.OK}},
		{"nothing, one list empty", []int{}, nil, answer{0, api.OK}},
		{"a whole", []int{5}, []int{5}, answer{1 << 32, api.OK}},
		{"a third and a half", []int{1, 1}, []int{3, 2}, answer{1<<31 + 1431655766, api.OK}},
		{"each term up", []int{1, 1, 1}, []int{3, 3, 3}, answer{3 * 1431655766, api.OK}},
		{"no work", []int{0}, []int{most}, answer{0, api.OK}},
		{"hardly any", []int{1}, []int{most}, answer{1, api.OK}},
		{"the greatest in the greatest", []int{most}, []int{most}, answer{1 << 32, api.OK}},
		{"greatest term", []int{1<<31 - 1}, []int{1}, answer{(1<<31 - 1) << 32, api.OK}},
		{"a term over", []int{1 << 31}, []int{1}, over()},
		{"a term far over", []int{most}, []int{1}, over()},
		{"the sum over", []int{1 << 30, 1 << 30}, []int{1, 1}, over()},
		{"the sum at the greatest", []int{1<<31 - 1, 1<<32 - 1}, []int{1, 1 << 32}, answer{most, api.OK}},
		{"the sum one beyond", []int{1<<31 - 1, 1 << 32}, []int{1, 1 << 32}, over()},
		{"time missing", []int{1}, nil, wrong()},
		{"work missing", []int{1}, []int{1, 2}, wrong()},
		{"negative work", []int{1, -1}, []int{1, 1}, wrong()},
		{"no time", []int{1, 1}, []int{1, 0}, wrong()},
		{"negative time", []int{1, 1}, []int{1, least}, wrong()},
		{"wrong behind over", []int{most, -1}, []int{1, 1}, wrong()},
		{"wrong time behind over", []int{1 << 30, 1 << 30, 0}, []int{1, 1, 0}, wrong()},
		{"lengths before over", []int{most, most}, []int{1}, wrong()},
	} {
		if g := got(Load(c.work, c.time)); g != c.want {
			t.Errorf("%s: %v, want %v", c.name, g, c.want)
		}
	}
}

func TestLoadAtEdges(t *testing.T) {
	term := func(work, time int) *big.Int {
		return ceil(new(big.Int).Lsh(number(work), 32), number(time))
	}
	for _, a := range natural() {
		for _, b := range natural()[1:] {
			for _, c := range natural() {
				for _, d := range natural()[1:] {
					want := got(fit(new(big.Int).Add(term(a, b), term(c, d))))
					if g := got(Load([]int{a, c}, []int{b, d})); g != want {
						t.Fatalf("Load(%d / %d, %d / %d) = %v, want %v", a, b, c, d, g, want)
					}
				}
			}
		}
	}
}

func TestLoadLeavesItsArguments(t *testing.T) {
	work, time := []int{1, 2, 3, 4}, []int{5, 6, 7, 8}
	Load(work[:2], time[:2])
	Load(work[:2], time[:3])
	if !slices.Equal(work, []int{1, 2, 3, 4}) || !slices.Equal(time, []int{5, 6, 7, 8}) {
		t.Error(work, time)
	}
}

// P1.4

// TestExactOverManyNumbers goes through numbers of all lengths, in a fixed order.
func TestExactOverManyNumbers(t *testing.T) {
	state := uint64(1)
	next := func() int {
		state = state*6364136223846793005 + 1442695040888963407
		n := state ^ state>>29
		return int(n) >> (state >> 58) // of 1 to 64 bits, both signs
	}
	for range 50000 {
		a, b, c, d := next(), next(), next(), next()
		x, y := number(a), number(b)
		for _, p := range []struct {
			name      string
			got, want answer
		}{
			{"Add", got(Add(a, b)), got(fit(new(big.Int).Add(x, y)))},
			{"Sub", got(Sub(a, b)), got(fit(new(big.Int).Sub(x, y)))},
			{"Mul", got(Mul(a, b)), got(fit(new(big.Int).Mul(x, y)))},
			{"MulDiv", got(MulDiv(a, b, c, d < 0)), wantMulDiv(a, b, c, d < 0)},
		} {
			if p.got != p.want {
				t.Fatalf("%s of %d, %d, %d, %v: %v, want %v", p.name, a, b, c, d < 0, p.got, p.want)
			}
		}
		a, b, c, d = a&most, b&most|1, c&most, d&most|1
		left := new(big.Int).Mul(number(a), number(d))
		want := answer{left.Cmp(new(big.Int).Mul(number(c), number(b))), api.OK}
		if g := got(Cmp(a, b, c, d)); g != want {
			t.Fatalf("Cmp(%d, %d, %d, %d) = %v, want %v", a, b, c, d, g, want)
		}
	}
}

// TestProductsOf128Bits: the halves themselves, with the carries that signed arguments never reach.
func TestProductsOf128Bits(t *testing.T) {
	words := []uint64{0, 1, 1<<32 - 1, 1 << 32, 1<<63 - 1, 1 << 63, 1<<64 - 1<<32, 1<<64 - 1}
	for _, a := range words {
		for _, b := range words {
			p := multiply(a, b)
			whole := new(big.Int).Lsh(new(big.Int).SetUint64(p.high()), 64)
			whole.Add(whole, new(big.Int).SetUint64(p.low()))
			want := new(big.Int).Mul(new(big.Int).SetUint64(a), new(big.Int).SetUint64(b))
			if whole.Cmp(want) != 0 {
				t.Errorf("%d * %d = %v, want %v", a, b, whole, want)
			}
		}
	}
}

// TestImports: the chapter lets the layer import package api only.
func TestImports(t *testing.T) {
	files, err := filepath.Glob("*.go")
	if err != nil || len(files) == 0 {
		t.Fatal(files, err)
	}
	for _, name := range files {
		if strings.HasSuffix(name, "_test.go") {
			continue
		}
		file, err := parser.ParseFile(token.NewFileSet(), name, nil, parser.ImportsOnly)
		if err != nil {
			t.Fatal(err)
		}
		for _, i := range file.Imports {
			if i.Path.Value != `"tourbillon/api"` {
				t.Errorf("%s imports %s", name, i.Path.Value)
			}
		}
	}
}
