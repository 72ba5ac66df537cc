package pack

import (
	"encoding/binary"
	"go/ast"
	"go/parser"
	"go/token"
	"math/big"
	"path/filepath"
	"slices"
	"strings"
	"testing"
	"unsafe"

	"tourbillon/api"
)

const (
	most     = 1<<63 - 1
	least    = -1 << 63
	greatest = 1 << 62 // the greatest number that has an encoding
	content  = 100000  // the most bytes that can be sealed
)

// short returns the beginning of a string, for what a failing test tells.
func short(s string) string { return s[:min(len(s), 40)] }

// writes holds what Write returns for the numbers against the string that is wanted.
func writes(t *testing.T, want string, l ...int) {
	t.Helper()
	if s, err := Write(l); s != want || err != api.OK {
		t.Errorf("Write(%v) = % x, %d, want % x", l[:min(len(l), 20)], short(s), err, short(want))
	}
}

// refuses holds the error of Write against the one that is wanted.
func refuses(t *testing.T, want api.Errno, l ...int) {
	t.Helper()
	if s, err := Write(l); s != "" || err != want {
		t.Errorf("Write(%v) of %d = % x, %d, want %d", l[:min(len(l), 20)], len(l), short(s), err, want)
	}
}

// reads holds what Read returns for s against the numbers that are wanted.
func reads(t *testing.T, s string, want ...int) {
	t.Helper()
	if l, err := Read(s); !slices.Equal(l, want) || err != api.OK {
		t.Errorf("Read(% x) of %d = %v, %d, want %v", short(s), len(s), l[:min(len(l), 20)], err, want[:min(len(want), 20)])
	}
}

// rejects holds the error of Read against the one that is wanted.
func rejects(t *testing.T, s string, want api.Errno) {
	t.Helper()
	if l, err := Read(s); len(l) != 0 || err != want {
		t.Errorf("Read(% x) of %d = %v, %d, want %d", short(s), len(s), l[:min(len(l), 20)], err, want)
	}
}

// opens holds what Open returns for s against the content that is wanted.
func opens(t *testing.T, s, want string) {
	t.Helper()
	if got, err := Open(s); got != want || err != api.OK {
		t.Errorf("Open(% x) of %d = % x, %d, want % x", short(s), len(s), short(got), err, short(want))
	}
}

// stays holds the error of Open against the one that is wanted.
func stays(t *testing.T, s string, want api.Errno) {
	t.Helper()
	if got, err := Open(s); got != "" || err != want {
		t.Errorf("Open(% x) of %d = % x, %d, want %d", short(s), len(s), short(got), err, want)
	}
}

// sealed returns what Seal returns for a string that is short enough.
func sealed(t *testing.T, s string) string {
	t.Helper()
	sealed, err := Seal(s)
	if err != api.OK {
		t.Fatalf("Seal(% x) of %d: %d", short(s), len(s), err)
	}
	return sealed
}

// times returns the byte n times.
func times(b byte, n int) string { return strings.Repeat(string([]byte{b}), n) }

// P6.1

func TestExamplesOfTheChapter(t *testing.T) {
	writes(t, "\x00\x7f\x80\x01\xac\x02", 0, 127, 128, 300)
	reads(t, "\x00\x7f\x80\x01\xac\x02", 0, 127, 128, 300)
	rejects(t, "\x80", api.ErrShort)
	rejects(t, "\x80\x00", api.ErrForm)
	rejects(t, times(0xff, 10), api.ErrShort)
	if s := sealed(t, ""); s != "\xff\xff" {
		t.Errorf("Seal of the empty string = % x", s)
	}
	if sum := Sum("123456789"); sum != 0x29b1 {
		t.Errorf("Sum of 123456789 = %x", sum)
	}
}

func TestSingleNumbers(t *testing.T) {
	for _, c := range []struct {
		n int
		s string
	}{
		{0, "\x00"}, {1, "\x01"}, {2, "\x02"}, {63, "\x3f"}, {64, "\x40"}, {126, "\x7e"}, {127, "\x7f"},
		{128, "\x80\x01"}, {129, "\x81\x01"}, {255, "\xff\x01"}, {256, "\x80\x02"}, {300, "\xac\x02"},
		{16383, "\xff\x7f"}, {16384, "\x80\x80\x01"}, {16385, "\x81\x80\x01"},
		{1 << 31, "\x80\x80\x80\x80\x08"}, {1<<32 - 1, "\xff\xff\xff\xff\x0f"}, {1 << 32, "\x80\x80\x80\x80\x10"},
		{1<<56 - 1, times(0xff, 7) + "\x7f"}, {1 << 56, times(0x80, 8) + "\x01"},
		{greatest - 2, "\xfe" + times(0xff, 7) + "\x3f"}, {greatest - 1, times(0xff, 8) + "\x3f"}, {greatest, times(0x80, 8) + "\x40"},
	} {
		writes(t, c.s, c.n)
		reads(t, c.s, c.n)
	}
}

// TestNumbersBesideEveryPower: written as the library does it, in as many bytes as there are groups.
func TestNumbersBesideEveryPower(t *testing.T) {
	for bit := range 63 {
		for _, n := range []int{1<<bit - 1, 1 << bit, 1<<bit + 1, 1<<bit | 1<<(bit/2), 1<<bit | 1<<bit>>1} {
			if n > greatest {
				continue
			}
			want := string(binary.AppendUvarint(nil, uint64(n)))
			writes(t, want, n)
			reads(t, want, n)
		}
	}
	for groups := 1; groups <= 8; groups++ {
		last, _ := Write([]int{1<<(7*groups) - 1})
		first, _ := Write([]int{1 << (7 * groups)})
		if len(last) != groups || len(first) != groups+1 {
			t.Errorf("%d groups: %d bytes, and %d of the next number", groups, len(last), len(first))
		}
	}
}

func TestWrongNumbers(t *testing.T) {
	for _, n := range []int{-1, -2, -127, -128, -300, -greatest, least, least + 1, greatest + 1, greatest + 2, greatest + 1<<61, most - 1, most} {
		refuses(t, api.ErrArg, n)
		refuses(t, api.ErrArg, n, 0, 1)
		refuses(t, api.ErrArg, 300, n, 5)
		refuses(t, api.ErrArg, 0, greatest, n)
		refuses(t, api.ErrArg, n, n, n)
		l := make([]int, api.MaxNumbers)
		l[api.MaxNumbers-1] = n
		refuses(t, api.ErrArg, l...)
	}
}

func TestEmptyList(t *testing.T) {
	for _, l := range [][]int{nil, {}, make([]int, 0, 9)} {
		writes(t, "", l...)
	}
	reads(t, "")
}

func TestManyNumbers(t *testing.T) {
	for _, n := range []int{0, 1, 127, 128, 300, 1 << 56, greatest} {
		one, _ := Write([]int{n})
		for _, count := range []int{1, 2, 3, 255, 256, 257, 1999, 2000} {
			l := slices.Repeat([]int{n}, count)
			writes(t, strings.Repeat(one, count), l...)
			reads(t, strings.Repeat(one, count), l...)
		}
		for _, count := range []int{2001, 2002, 4000, 65536, 100000} {
			refuses(t, api.ErrLong, slices.Repeat([]int{n}, count)...)
			rejects(t, strings.Repeat(one, count), api.ErrLong)
		}
	}
}

// TestTooManyAndWrong: that there are too many is named first.
func TestTooManyAndWrong(t *testing.T) {
	for _, n := range []int{-1, least, greatest + 1, most} {
		for _, at := range []int{0, 1, 1000, 1999, 2000} {
			l := make([]int, 2001)
			l[at] = n
			refuses(t, api.ErrLong, l...)
			if at < 2000 {
				refuses(t, api.ErrArg, l[:2000]...)
			}
		}
	}
}

// TestEndsWithinANumber: wherever a number of several bytes is cut off.
func TestEndsWithinANumber(t *testing.T) {
	for _, n := range []int{128, 300, 16384, 1 << 40, greatest - 1, greatest} {
		code, _ := Write([]int{n})
		for cut := 1; cut < len(code); cut++ {
			rejects(t, code[:cut], api.ErrShort)
			rejects(t, "\x00"+code[:cut], api.ErrShort)
			rejects(t, code+code[:cut], api.ErrShort)
			rejects(t, times(0x05, 1999)+code[:cut], api.ErrShort)
		}
	}
	for size := 1; size < 300; size++ {
		rejects(t, times(0x80, size), api.ErrShort)
		rejects(t, times(0xff, size), api.ErrShort)
	}
	rejects(t, times(0x80, 1<<20), api.ErrShort)
}

// TestLongerThanNecessary: whatever number it is, also one that is too great or of more than 9 bytes.
func TestLongerThanNecessary(t *testing.T) {
	for _, b := range []byte{0x80, 0x81, 0xc0, 0xff} {
		for size := 1; size < 300; size++ {
			code := times(b, size) + "\x00"
			rejects(t, code, api.ErrForm)
			rejects(t, "\x00"+code, api.ErrForm)
			rejects(t, code+"\x01", api.ErrForm)
			rejects(t, "\x00\x00"+code+"\x00", api.ErrForm)
		}
	}
	for n := range 1000 {
		code, _ := Write([]int{n})
		raised := []byte(code)
		raised[len(raised)-1] |= 0x80
		rejects(t, string(raised)+"\x00", api.ErrForm)
		rejects(t, string(raised)+"\x80\x00", api.ErrForm)
	}
	reads(t, "\x00", 0)
	reads(t, "\x00\x00\x00", 0, 0, 0)
	reads(t, "\x80\x01\x00", 128, 0)
}

func TestTooGreatNumbers(t *testing.T) {
	for _, code := range []string{
		"\x81" + times(0x80, 7) + "\x40",  // 2^62 + 1
		times(0x80, 7) + "\x81\x40",       // 2^62 + 2^49
		times(0x80, 8) + "\x41",           // 2^62 + 2^56
		times(0x80, 8) + "\x60",           // 2^62 + 2^61
		times(0xff, 8) + "\x40",           // 2^62 + 2^56 - 1
		times(0xff, 8) + "\x7f",           // 2^63 - 1
		times(0x80, 9) + "\x01",           // 2^63
		times(0xff, 9) + "\x01",           // 2^64 - 1
		times(0x80, 9) + "\x02",           // 2^64
		"\x85" + times(0x80, 8) + "\x02",  // 2^64 + 5
		times(0x80, 9) + "\x7e",           // 2^70 - 2^64
		"\x85" + times(0x80, 9) + "\x01",  // 2^70 + 5
		times(0x80, 10) + "\x01",          // 2^70
		times(0xff, 10) + "\x7f",          // 2^77 - 1
		"\x81" + times(0x80, 70) + "\x01", // 2^497 + 1
	} {
		rejects(t, code, api.ErrLong)
		rejects(t, "\x05"+code, api.ErrLong)
		rejects(t, code+"\x05", api.ErrLong)
	}
}

// TestMoreThanNineBytes: the groups behind the ninth are not lost, however many there are.
func TestMoreThanNineBytes(t *testing.T) {
	for size := 9; size < 600; size++ {
		for _, last := range []byte{1, 2, 4, 0x40, 0x7f} {
			rejects(t, times(0x80, size)+string([]byte{last}), api.ErrLong)
			rejects(t, "\x81"+times(0x80, size-1)+string([]byte{last}), api.ErrLong)
			rejects(t, times(0xff, size)+string([]byte{last}), api.ErrLong)
		}
	}
	rejects(t, times(0x80, 1<<20)+"\x01", api.ErrLong)
	rejects(t, times(0x80, 1<<20)+"\x00", api.ErrForm)
}

// TestSeveralErrors: the one that comes first from the beginning; of one number, the one that is named first.
func TestSeveralErrors(t *testing.T) {
	const cut, loose = "\x80", "\x80\x00"
	great := times(0xff, 8) + "\x7f"
	full := times(0x01, 2000)
	for _, c := range []struct {
		s   string
		err api.Errno
	}{
		{loose + cut, api.ErrForm}, {great + cut, api.ErrLong},
		{loose + great, api.ErrForm}, {great + loose, api.ErrLong},
		{"\x05" + great + loose + cut, api.ErrLong}, {"\x05" + loose + great + cut, api.ErrForm},
		{great + full + "\x01", api.ErrLong}, {loose + full + "\x01", api.ErrForm},
		{full + "\x01" + loose, api.ErrLong}, {full + "\x01" + cut, api.ErrLong}, {full + "\x01" + great, api.ErrLong},
		{full + cut, api.ErrShort}, {full + loose, api.ErrForm}, {full + great, api.ErrLong},
		{full[1:] + cut, api.ErrShort}, {full[1:] + loose, api.ErrForm}, {full[1:] + great, api.ErrLong},
		{full[1:] + loose + "\x01\x01", api.ErrForm}, {full[1:] + great + cut, api.ErrLong},
		{times(0xff, 9) + "\x00", api.ErrForm}, {times(0xff, 9), api.ErrShort}, {times(0xff, 8), api.ErrShort},
	} {
		rejects(t, c.s, c.err)
	}
}

// spell decodes s as the chapter tells it, with numbers that have no bound.
func spell(s string) ([]int, api.Errno) {
	var l []int
	n, weight, size := new(big.Int), big.NewInt(1), 0
	for i := range len(s) {
		group := big.NewInt(int64(s[i] & 0x7f))
		n.Add(n, group.Mul(group, weight))
		weight.Mul(weight, big.NewInt(128))
		size++
		switch {
		case s[i] >= 0x80:
			continue
		case s[i] == 0 && size > 1:
			return nil, api.ErrForm
		case n.Cmp(big.NewInt(greatest)) > 0 || len(l) == 2000:
			return nil, api.ErrLong
		}
		l = append(l, int(n.Int64()))
		n, weight, size = new(big.Int), big.NewInt(1), 0
	}
	if size > 0 {
		return nil, api.ErrShort
	}
	return l, api.OK
}

// spelt holds Read against what is spelt, and what is read against what is written: P6.3 for any string.
func spelt(t *testing.T, s string) {
	t.Helper()
	want, err := spell(s)
	if err != api.OK {
		rejects(t, s, err)
		return
	}
	reads(t, s, want...)
	writes(t, s, want...)
}

// everyString calls f with all strings of up to size bytes of the alphabet.
func everyString(alphabet string, size int, f func(s string)) {
	var grow func(s string)
	grow = func(s string) {
		f(s)
		if len(s) == size {
			return
		}
		for i := range len(alphabet) {
			grow(s + alphabet[i:i+1])
		}
	}
	grow("")
}

// allBytes returns every byte once.
func allBytes() string {
	b := make([]byte, 256)
	for i := range b {
		b[i] = byte(i)
	}
	return string(b)
}

func TestEveryShortString(t *testing.T) {
	everyString(allBytes(), 2, func(s string) { spelt(t, s) })
	everyString("\x00\x01\x7f\x80\xff", 6, func(s string) { spelt(t, s) })
	everyString("\x00\x80", 13, func(s string) { spelt(t, s) })
	everyString("\x01\xff", 13, func(s string) { spelt(t, s) })
}

// source returns a function that answers numbers from 0 to n - 1 in a fixed order.
func source() func(n int) int {
	state := uint64(1)
	return func(n int) int {
		state = state*6364136223846793005 + 1442695040888963407
		return int(state>>33) % n
	}
}

// TestStringsAroundTheGreatestNumber: those of 8 to 11 bytes, with every byte at the end.
func TestStringsAroundTheGreatestNumber(t *testing.T) {
	next := source()
	for size := 7; size <= 10; size++ {
		for last := range 256 {
			for range 4 {
				b := make([]byte, size)
				for i := range b {
					b[i] = 0x80 | []byte{0, 1, 0x7f, byte(next(128))}[next(4)]
				}
				spelt(t, string(b)+string([]byte{byte(last)}))
			}
		}
	}
}

// anyNumbers returns numbers of all sizes, in a fixed order.
func anyNumbers(count int, next func(int) int) []int {
	l := make([]int, count)
	for i := range l {
		l[i] = (next(1<<31)<<31 | next(1<<31)) >> next(62)
		if next(20) == 0 {
			l[i] = greatest - next(2)
		}
	}
	return l
}

func TestArgumentIsNotChanged(t *testing.T) {
	next := source()
	all := anyNumbers(30, next)
	all[25] = -1
	kept := slices.Clone(all)
	for _, l := range [][]int{all[:20], all[3:9], all[:0], all} {
		Write(l)
	}
	if !slices.Equal(all, kept) {
		t.Errorf("Write changed its argument: %v, want %v", all, kept)
	}
}

// TestResultsAreNewMemory: with their spare capacity.
func TestResultsAreNewMemory(t *testing.T) {
	spoil := func(l []int) {
		for i := range l[:cap(l)] {
			l[:cap(l)][i] = 99
		}
	}
	s := "\x01\x02\x03\x80\x01"
	a, _ := Read(s)
	b, _ := Read(s)
	spoil(a)
	if !slices.Equal(b, []int{1, 2, 3, 128}) {
		t.Errorf("two results share memory: %v", b)
	}
	reads(t, s, 1, 2, 3, 128)
	closed := sealed(t, s)
	open, _ := Open(closed)
	if unsafe.StringData(open) == unsafe.StringData(closed) {
		t.Error("Open returns a piece of its argument")
	}
	if other, _ := Open(closed); unsafe.StringData(open) == unsafe.StringData(other) {
		t.Error("two results of Open share memory")
	}
}

// P6.2

// divided returns the checksum as the rest of a division of polynomials: the bits of s, the first 16 of them inverted, and 16 bits more, by 11021.
func divided(s string) uint16 {
	rest := make([]bool, 0, len(s)*8+16)
	for i := range len(s) {
		for bit := 7; bit >= 0; bit-- {
			rest = append(rest, s[i]>>bit&1 == 1)
		}
	}
	rest = append(rest, make([]bool, 16)...)
	for i := range 16 {
		rest[i] = !rest[i]
	}
	for i := range len(rest) - 16 {
		if rest[i] {
			for _, power := range []int{16, 12, 5, 0} {
				rest[i+16-power] = !rest[i+16-power]
			}
		}
	}
	sum := uint16(0)
	for _, set := range rest[len(rest)-16:] {
		sum *= 2
		if set {
			sum++
		}
	}
	return sum
}

func TestKnownSums(t *testing.T) {
	for s, want := range map[string]uint16{
		"": 0xffff, "123456789": 0x29b1, "A": 0xb915, "\x00": 0xe1f0, "\xff": 0xff00, "\x00\x00": 0x1d0f, "\xff\xff": 0x0000,
	} {
		if sum := Sum(s); sum != want {
			t.Errorf("Sum(% x) = %04x, want %04x", s, sum, want)
		}
	}
}

func TestSumsOfEveryShortString(t *testing.T) {
	sums := func(s string) {
		if sum, want := Sum(s), divided(s); sum != want {
			t.Errorf("Sum(% x) of %d = %04x, want %04x", short(s), len(s), sum, want)
		}
	}
	everyString(allBytes(), 2, sums)
	everyString("\x00\x01\x10\x80\xff", 5, sums)
	next := source()
	for _, size := range []int{10, 100, 255, 256, 257, 1000, 32768, content - 1, content, content + 1, 300000} {
		sums(anyBytes(size, next))
	}
}

// anyBytes returns a string of that many bytes, in a fixed order.
func anyBytes(size int, next func(int) int) string {
	b := make([]byte, size)
	for i := range b {
		b[i] = byte(next(256))
	}
	return string(b)
}

// TestSealIsTheSumBehind: the most significant byte first.
func TestSealIsTheSumBehind(t *testing.T) {
	next := source()
	for _, size := range []int{0, 1, 2, 3, 9, 255, 256, 257, 65535, 65536, content - 2, content - 1, content} {
		s := anyBytes(size, next)
		sum := divided(s)
		want := s + string([]byte{byte(sum / 256), byte(sum % 256)})
		if got, err := Seal(s); got != want || err != api.OK {
			t.Errorf("Seal of %d bytes = % x, %d", size, short(got), err)
		}
		opens(t, want, s)
	}
	if got := sealed(t, "123456789"); got != "123456789\x29\xb1" {
		t.Errorf("Seal of 123456789 = % x", got)
	}
}

func TestSealTooLong(t *testing.T) {
	next := source()
	for _, size := range []int{content + 1, content + 2, content + 3, 1 << 17, 1 << 22} {
		if got, err := Seal(anyBytes(size, next)); got != "" || err != api.ErrLong {
			t.Errorf("Seal of %d bytes = % x, %d", size, short(got), err)
		}
	}
}

func TestOpenTooShort(t *testing.T) {
	stays(t, "", api.ErrShort)
	for i := range 256 {
		stays(t, string([]byte{byte(i)}), api.ErrShort)
	}
}

// TestOpenTwoBytes: of all of them, only the checksum of no bytes is one.
func TestOpenTwoBytes(t *testing.T) {
	everyString(allBytes(), 2, func(s string) {
		switch {
		case len(s) < 2:
			stays(t, s, api.ErrShort)
		case s == "\xff\xff":
			opens(t, s, "")
		default:
			stays(t, s, api.ErrSum)
		}
	})
}

// TestOpenTooLong: whether the checksum is right or not, as that is named behind.
func TestOpenTooLong(t *testing.T) {
	next := source()
	for _, size := range []int{content + 1, content + 2, 1 << 17, 1 << 22} {
		s := anyBytes(size, next)
		sum := Sum(s)
		stays(t, s+string([]byte{byte(sum >> 8), byte(sum)}), api.ErrLong)
		stays(t, s+string([]byte{byte(sum >> 8), byte(sum) ^ 1}), api.ErrLong)
	}
	s := anyBytes(content, next)
	opens(t, sealed(t, s), s)
	stays(t, s+string([]byte{byte(Sum(s) >> 8), byte(Sum(s)) ^ 1}), api.ErrSum)
}

// TestOpenEverySum: of all pairs of bytes behind a content, one opens.
func TestOpenEverySum(t *testing.T) {
	const s = "tourbillon"
	right := sealed(t, s)
	for high := range 256 {
		for low := range 256 {
			closed := s + string([]byte{byte(high), byte(low)})
			if closed == right {
				opens(t, closed, s)
			} else {
				stays(t, closed, api.ErrSum)
			}
		}
	}
	stays(t, s+right[len(s)+1:]+right[len(s):len(s)+1], api.ErrSum) // the bytes of the checksum the other way about
}

// P6.3

func TestReadingWhatIsWritten(t *testing.T) {
	next := source()
	for count := range 300 {
		l := anyNumbers(count, next)
		s, err := Write(l)
		if err != api.OK {
			t.Fatalf("Write(%v): %d", l, err)
		}
		reads(t, s, l...)
		opens(t, sealed(t, s), s)
	}
	l := anyNumbers(api.MaxNumbers, next)
	s, _ := Write(l)
	reads(t, s, l...)
	for n := range 70000 {
		code, _ := Write([]int{n})
		reads(t, code, n)
	}
}

// TestWritingWhatIsRead: of strings in a fixed order, most of them no encodings; those that are have no other one.
func TestWritingWhatIsRead(t *testing.T) {
	next := source()
	for range 20000 {
		b := []byte(anyBytes(next(24), next))
		if len(b) > 0 && next(3) > 0 {
			b[len(b)-1] &= 0x7f // else half of them would end within a number
		}
		spelt(t, string(b))
	}
}

// inverted returns s with one bit inverted.
func inverted(s string, bit int) string {
	b := []byte(s)
	b[bit/8] ^= 0x80 >> (bit % 8)
	return string(b)
}

func TestEveryBitInverted(t *testing.T) {
	next := source()
	contents := []string{"", "\x00", "\xff", "123456789", times(0, 300), times(0xff, 300)}
	for size := range 80 {
		contents = append(contents, anyBytes(size, next))
	}
	for _, s := range contents {
		closed := sealed(t, s)
		opens(t, closed, s)
		for bit := range len(closed) * 8 {
			stays(t, inverted(closed, bit), api.ErrSum)
		}
	}
}

// TestBitsInvertedInTheLongest: those at both ends and some between, as all of them would take long.
func TestBitsInvertedInTheLongest(t *testing.T) {
	next := source()
	s := anyBytes(content, next)
	closed := sealed(t, s)
	last := len(closed)*8 - 1
	for bit := range 40 {
		stays(t, inverted(closed, bit), api.ErrSum)
		stays(t, inverted(closed, last-bit), api.ErrSum)
		stays(t, inverted(closed, next(last)), api.ErrSum)
	}
	for bit := 1 << 15; bit <= last; bit += 1 << 15 {
		stays(t, inverted(closed, bit-1), api.ErrSum)
		stays(t, inverted(closed, bit), api.ErrSum)
	}
}

// Ways

// sources returns the files of the package that are no tests.
func sources(t *testing.T) map[string]*ast.File {
	t.Helper()
	names, err := filepath.Glob("*.go")
	if err != nil || len(names) == 0 {
		t.Fatal(names, err)
	}
	files := map[string]*ast.File{}
	for _, name := range names {
		if strings.HasSuffix(name, "_test.go") {
			continue
		}
		file, err := parser.ParseFile(token.NewFileSet(), name, nil, 0)
		if err != nil {
			t.Fatal(err)
		}
		files[name] = file
	}
	return files
}

// TestImports: the chapter lets the layer import package api only.
func TestImports(t *testing.T) {
	for name, file := range sources(t) {
		for _, i := range file.Imports {
			if i.Path.Value != `"tourbillon/api"` {
				t.Errorf("%s imports %s", name, i.Path.Value)
			}
		}
	}
}

// TestTheReaderIsAClosure: a function returns it.
func TestTheReaderIsAClosure(t *testing.T) {
	returned := 0
	for _, file := range sources(t) {
		ast.Inspect(file, func(n ast.Node) bool {
			if r, ok := n.(*ast.ReturnStmt); ok {
				for _, result := range r.Results {
					if _, ok := result.(*ast.FuncLit); ok {
						returned++
					}
				}
			}
			return true
		})
	}
	if returned == 0 {
		t.Error("no function returns a closure")
	}
}

// TestReadersAreApart: each keeps its own place, and stays at the end.
func TestReadersAreApart(t *testing.T) {
	takes := func(next func() (int, bool, api.Errno), want int, found bool) {
		t.Helper()
		if n, ok, err := next(); n != want || ok != found || err != api.OK {
			t.Errorf("next = %d, %v, %d, want %d, %v", n, ok, err, want, found)
		}
	}
	const s = "\x07\x80\x01\x00"
	a, b := reader(s), reader(s)
	takes(a, 7, true)
	takes(a, 128, true)
	takes(b, 7, true)
	takes(a, 0, true)
	takes(a, 0, false)
	takes(b, 128, true)
	takes(a, 0, false)
	takes(b, 0, true)
	takes(b, 0, false)
}
