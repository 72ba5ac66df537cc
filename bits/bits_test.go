package bits

import (
	"go/parser"
	"go/token"
	"path/filepath"
	"slices"
	"strings"
	"testing"

	"tourbillon/api"
)

const (
	most  = 1<<63 - 1
	least = -1 << 63
)

// borders are the first and the last level of each word, and their neighbours.
var borders = []int{0, 1, 62, 63, 64, 65, 126, 127, 128, 129, 190, 191, 192, 193, 254, 255}

// noLevels are numbers that are none: some of them have a level's lower bits.
var noLevels = []int{-1, -2, -63, -64, -65, -128, -192, -255, -256, -257, 256, 257, 319, 320, 511, 512, 1 << 16, 1 << 31, 1<<32 - 1, 1 << 32, 1<<32 + 5, -1 << 31, -1 << 32, most - 1, most, least, least + 1, least + 64}

// full is the set of all levels.
var full = Set{[4]uint64{1<<64 - 1, 1<<64 - 1, 1<<64 - 1, 1<<64 - 1}}

// of returns the set of some levels.
func of(t *testing.T, l ...int) Set {
	t.Helper()
	s, err := Of(l)
	if err != api.OK {
		t.Fatalf("Of(%v) = %v, %d", l, s, err)
	}
	return s
}

// number holds an answer against the one that is wanted.
func number(t *testing.T, name string, got, want int) {
	t.Helper()
	if got != want {
		t.Errorf("%s = %d, want %d", name, got, want)
	}
}

// rival is a set of levels as plain marks.
type rival [256]bool

// rivalOf returns the marks of a set, read as the chapter says where a level is.
func rivalOf(s Set) rival {
	var r rival
	for i := range r {
		r[i] = s.W[i/64]>>(i%64)%2 == 1
	}
	return r
}

// set returns the set of the marks.
func (r rival) set() Set {
	var s Set
	for i, in := range r {
		if in {
			s.W[i/64] += 1 << (i % 64)
		}
	}
	return s
}

// next returns the first mark at from or behind it, or -1.
func (r rival) next(from int) int {
	for i := from; i < len(r); i++ {
		if r[i] {
			return i
		}
	}
	return -1
}

// list returns the marks.
func (r rival) list() []int {
	var l []int
	for i, in := range r {
		if in {
			l = append(l, i)
		}
	}
	return l
}

// alike holds every answer of s against its marks.
func alike(t *testing.T, s Set) {
	t.Helper()
	before, r := s, rivalOf(s)
	for i := range 256 {
		with, without := r, r
		with[i], without[i] = true, false
		if s.Has(i) != r[i] || s.With(i) != with.set() || s.Without(i) != without.set() || s.Next(i) != r.next(i+1) {
			t.Fatalf("%v, level %d: Has %v, With %v, Without %v, Next %d", s, i, s.Has(i), s.With(i), s.Without(i), s.Next(i))
		}
	}
	l := r.list()
	if s.First() != r.next(0) || s.Next(-1) != r.next(0) || s.Count() != len(l) || !slices.Equal(s.List(), l) {
		t.Fatalf("%v: First %d, Next(-1) %d, Count %d, List %v, want %v", s, s.First(), s.Next(-1), s.Count(), s.List(), l)
	}
	if again, err := Of(s.List()); again != s || err != api.OK {
		t.Fatalf("Of of the List of %v = %v, %d", s, again, err)
	}
	if s != before {
		t.Fatalf("%v has become %v", before, s)
	}
}

// samples returns sets of every kind: ordinary ones, full and empty words, each border, patterns, and some in a fixed order.
func samples() []Set {
	l := []Set{{}, full}
	words := []uint64{0, 1, 1 << 63, 1<<63 | 1, 1<<64 - 1, 1<<64 - 2, 1<<63 - 1, 1 << 31, 1 << 32}
	for _, a := range words {
		for _, b := range words[:5] {
			l = append(l, Set{[4]uint64{a, b, 0, 0}}, Set{[4]uint64{0, a, b, 0}}, Set{[4]uint64{0, 0, a, b}}, Set{[4]uint64{b, 0, 0, a}}, Set{[4]uint64{a, b, a, b}})
		}
	}
	state := uint64(1)
	next := func() uint64 {
		state = state*6364136223846793005 + 1442695040888963407
		return state ^ state>>29
	}
	for range 60 {
		dense := Set{[4]uint64{next(), next(), next(), next()}}
		l = append(l, dense)
		for k := range dense.W {
			dense.W[k] &= next() & next() & next() & next()
		}
		l = append(l, dense)
	}
	return l
}

// P3.1

// TestWhereLevelsAre: bit i % 64 of W[i / 64].
func TestWhereLevelsAre(t *testing.T) {
	for i, want := range map[int]Set{
		0:   {[4]uint64{1, 0, 0, 0}},
		5:   {[4]uint64{32, 0, 0, 0}},
		63:  {[4]uint64{1 << 63, 0, 0, 0}},
		64:  {[4]uint64{0, 1, 0, 0}},
		127: {[4]uint64{0, 1 << 63, 0, 0}},
		128: {[4]uint64{0, 0, 1, 0}},
		191: {[4]uint64{0, 0, 1 << 63, 0}},
		192: {[4]uint64{0, 0, 0, 1}},
		255: {[4]uint64{0, 0, 0, 1 << 63}},
	} {
		if got := (Set{}).With(i); got != want {
			t.Errorf("With(%d) = %v, want %v", i, got, want)
		}
		if got := of(t, i); got != want {
			t.Errorf("Of(%d) = %v, want %v", i, got, want)
		}
		if !want.Has(i) || want.Without(i) != (Set{}) || want.First() != i || want.Count() != 1 {
			t.Errorf("%v: Has %v, Without %v, First %d, Count %d", want, want.Has(i), want.Without(i), want.First(), want.Count())
		}
	}
}

func TestExamplesOfTheChapter(t *testing.T) {
	s := of(t, 5, 70, 255)
	number(t, "First", s.First(), 5)
	number(t, "Next(5)", s.Next(5), 70)
	number(t, "Next(70)", s.Next(70), 255)
	number(t, "Next(255)", s.Next(255), -1)
	number(t, "Count", s.Count(), 3)
	number(t, "First of the empty set", (Set{}).First(), -1)
	if s, err := Of([]int{256}); s != (Set{}) || err != api.ErrArg {
		t.Errorf("Of(256) = %v, %d", s, err)
	}
}

func TestEveryPairOfLevels(t *testing.T) {
	for i := range 256 {
		one := (Set{}).With(i)
		for j := range 256 {
			two, low, high := one.With(j), min(i, j), max(i, j)
			if one.Has(j) != (i == j) || !two.Has(i) || !two.Has(j) || two.First() != low || two.Next(high) != -1 {
				t.Fatalf("%d, %d: %v", i, j, two)
			}
			if i == j {
				if two != one || two.Count() != 1 || two.Without(j) != (Set{}) {
					t.Fatalf("%d twice: %v", i, two)
				}
				continue
			}
			if two.Next(low) != high || two.Next(high-1) != high || two.Count() != 2 || two.Without(j) != one || one.Without(j) != one {
				t.Fatalf("%d, %d: %v", i, j, two)
			}
		}
	}
}

func TestAgainstMarks(t *testing.T) {
	for i := range 256 {
		alike(t, Set{}.With(i))
		alike(t, full.Without(i))
	}
	for _, s := range samples() {
		alike(t, s)
	}
}

func TestEmptyAndFull(t *testing.T) {
	none := Set{}
	number(t, "Count of none", none.Count(), 0)
	number(t, "First of none", none.First(), -1)
	number(t, "Count of all", full.Count(), 256)
	number(t, "First of all", full.First(), 0)
	filled, emptied := none, full
	for i := range 256 {
		number(t, "Next of none", none.Next(i), -1)
		want := i + 1
		if i == 255 {
			want = -1
		}
		number(t, "Next of all", full.Next(i), want)
		filled, emptied = filled.With(i), emptied.Without(i)
		number(t, "Count while it fills", filled.Count(), i+1)
		number(t, "Count while it empties", emptied.Count(), 255-i)
		number(t, "First while it empties", emptied.First(), want)
		if full.With(i) != full || none.Without(i) != none {
			t.Errorf("level %d: With on all or Without on none changes it", i)
		}
	}
	if filled != full || emptied != none {
		t.Errorf("filled %v, emptied %v", filled, emptied)
	}
}

func TestNumbersThatAreNoLevels(t *testing.T) {
	for _, s := range []Set{{}, full, of(t, borders...), of(t, 5, 70, 255), of(t, 0), of(t, 255), of(t, 128)} {
		for _, i := range noLevels {
			if s.Has(i) || s.With(i) != s || s.Without(i) != s {
				t.Errorf("%v, %d: Has %v, With %v, Without %v", s, i, s.Has(i), s.With(i), s.Without(i))
			}
			want := -1
			if i < 0 {
				want = s.First()
			}
			number(t, "Next of no level", s.Next(i), want)
		}
	}
	number(t, "Next of a negative number", of(t, 0, 9).Next(-9), 0)
	number(t, "Next of the least number", of(t, 200).Next(least), 200)
	number(t, "Next of the greatest number", full.Next(most), -1)
}

func TestNextOverTheBorders(t *testing.T) {
	s := of(t, borders...)
	for k, i := range borders {
		want := -1
		if k+1 < len(borders) {
			want = borders[k+1]
		}
		number(t, "Next at a border", s.Next(i), want)
	}
	number(t, "Next between", s.Next(30), 62)
	number(t, "Next over empty words", of(t, 0, 255).Next(0), 255)
	number(t, "Next within a word", of(t, 64, 127).Next(64), 127)
	number(t, "Next of what is not in the set", of(t, 63, 128).Next(64), 128)
}

// P3.2

func TestOf(t *testing.T) {
	for _, l := range [][]int{nil, {}} {
		if s, err := Of(l); s != (Set{}) || err != api.OK {
			t.Errorf("Of of no level = %v, %d", s, err)
		}
	}
	want := (Set{}).With(0).With(5).With(64).With(255)
	for _, l := range [][]int{{0, 5, 64, 255}, {255, 64, 5, 0}, {5, 5, 0, 255, 64, 5, 255}, {64, 0, 0, 255, 255, 5}} {
		if s, err := Of(l); s != want || err != api.OK {
			t.Errorf("Of(%v) = %v, %d, want %v", l, s, err, want)
		}
	}
	var many []int
	for i := range 5000 {
		many = append(many, i*37%256)
	}
	if s, err := Of(many); s != full || err != api.OK {
		t.Errorf("Of of all levels, many times = %v, %d", s, err)
	}
}

func TestOfWrong(t *testing.T) {
	for _, wrong := range noLevels {
		for _, l := range [][]int{{wrong}, {wrong, 3}, {0, 255, wrong}, {1, wrong, 2}, {wrong, wrong}} {
			if s, err := Of(l); s != (Set{}) || err != api.ErrArg {
				t.Errorf("Of(%v) = %v, %d", l, s, err)
			}
		}
	}
	long := append(full.List(), 256)
	if s, err := Of(long); s != (Set{}) || err != api.ErrArg {
		t.Errorf("Of of all levels and 256 = %v, %d", s, err)
	}
}

func TestOfLeavesItsArgument(t *testing.T) {
	memory := []int{70, 5, 255, 5, -7, 300}
	s, err := Of(memory[:4])
	if err != api.OK || !slices.Equal(memory, []int{70, 5, 255, 5, -7, 300}) {
		t.Errorf("Of = %d, leaves %v", err, memory)
	}
	memory[0] = 9
	if s != of(t, 5, 70, 255) {
		t.Errorf("the set has changed with the list: %v", s)
	}
}

func TestList(t *testing.T) {
	if l := (Set{}).List(); len(l) != 0 {
		t.Errorf("List of none = %v", l)
	}
	if l := of(t, 255, 70, 5, 70).List(); !slices.Equal(l, []int{5, 70, 255}) {
		t.Errorf("List = %v", l)
	}
	if l := of(t, borders...).List(); !slices.Equal(l, borders) {
		t.Errorf("List of the borders = %v", l)
	}
	l := full.List()
	number(t, "the length of the List of all", len(l), 256)
	for i, level := range l {
		number(t, "List of all", level, i)
	}
}

func TestListIsNewMemory(t *testing.T) {
	for _, s := range []Set{of(t, 1, 2, 200), full} {
		a, b := s.List(), s.List()
		want := slices.Clone(b)
		for i := range a[:cap(a)] {
			a[:cap(a)][i] = 99
		}
		if !slices.Equal(b, want) || !slices.Equal(s.List(), want) {
			t.Errorf("Lists share memory: %v, %v, want %v", b, s.List(), want)
		}
	}
}

// P3.3

func TestSetIsAValue(t *testing.T) {
	s := of(t, 5, 70, 255)
	before := s
	u := s.Without(70).With(64)
	if s != before || s.W != [4]uint64{1 << 5, 1 << 6, 0, 1 << 63} {
		t.Errorf("With and Without have changed their set: %v", s)
	}
	if u != of(t, 5, 64, 255) {
		t.Errorf("Without(70).With(64) = %v", u)
	}
	copied := u
	copied.W[0] = 0
	if !u.Has(5) || copied.Has(5) {
		t.Errorf("a copy shares with its set: %v, %v", u, copied)
	}
	for i := range 256 {
		s.With(i)
		s.Without(i)
	}
	if s != before {
		t.Errorf("With and Without have changed their set: %v", s)
	}
	counts := map[Set]int{s: 1}
	counts[of(t, 255, 70, 5)]++
	number(t, "a set as a key", counts[before], 2)
}

func TestOfUndoesList(t *testing.T) {
	for _, s := range samples() {
		if got := of(t, s.List()...); got != s {
			t.Errorf("Of of the List of %v = %v", s, got)
		}
	}
}

// TestImports: the chapter lets the layer import package api only.
func TestImports(t *testing.T) {
	files, err := filepath.Glob("*.go")
	if err != nil || len(files) == 0 {
		t.Fatal(files, err)
	}
	for _, name := range files {
		if strings.HasSuffix(name, "_test.go") {
			continue
		}
		file, err := parser.ParseFile(token.NewFileSet(), name, nil, parser.ImportsOnly)
		if err != nil {
			t.Fatal(err)
		}
		for _, i := range file.Imports {
			if i.Path.Value != `"tourbillon/api"` {
				t.Errorf("%s imports %s", name, i.Path.Value)
			}
		}
	}
}
