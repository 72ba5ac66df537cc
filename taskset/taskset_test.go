package taskset

import (
	"go/ast"
	"go/parser"
	"go/token"
	"path/filepath"
	"reflect"
	"slices"
	"strings"
	"testing"

	"tourbillon/api"
	"tourbillon/pack"
)

const (
	most     = 1<<63 - 1
	least    = -1 << 63
	greatest = 1 << 62 // the greatest number that has an encoding
)

// sealed returns numbers that pack writes as the bytes of a system, whether they are those of one or not.
func sealed(t *testing.T, l ...int) string {
	t.Helper()
	content, err := pack.Write(l)
	if err != api.OK {
		t.Fatalf("Write(%v): %d", l, err)
	}
	return sealedBytes(t, content)
}

// sealedBytes returns a content with its checksum.
func sealedBytes(t *testing.T, content string) string {
	t.Helper()
	b, err := pack.Seal(content)
	if err != api.OK {
		t.Fatalf("Seal of %d bytes: %d", len(content), err)
	}
	return b
}

// encodes holds what Encode returns for s against the numbers that are wanted, sealed.
func encodes(t *testing.T, s api.System, want ...int) {
	t.Helper()
	if b, err := Encode(s); b != sealed(t, want...) || err != api.OK {
		t.Errorf("Encode(%v) = % x, %d, want %v", s, b, err, want)
	}
}

// refuses holds the error of Encode against the one that is wanted.
func refuses(t *testing.T, s api.System, want api.Errno) {
	t.Helper()
	if b, err := Encode(s); b != "" || err != want {
		t.Errorf("Encode(%v) = % x, %d, want %d", s, b, err, want)
	}
}

// decodes holds what Decode returns for numbers against the system that is wanted.
func decodes(t *testing.T, want api.System, l ...int) {
	t.Helper()
	if s, err := Decode(sealed(t, l...)); !alike(s, want) || err != api.OK {
		t.Errorf("Decode(%v) = %v, %d, want %v", l, s, err, want)
	}
}

// rejects holds the error of Decode for numbers against the one that is wanted.
func rejects(t *testing.T, want api.Errno, l ...int) {
	t.Helper()
	rejectsBytes(t, sealed(t, l...), want)
}

// rejectsBytes holds the error of Decode against the one that is wanted.
func rejectsBytes(t *testing.T, b string, want api.Errno) {
	t.Helper()
	if s, err := Decode(b); !reflect.DeepEqual(s, api.System{}) || err != want {
		t.Errorf("Decode(% x) of %d = %v, %d, want %d", b[:min(len(b), 60)], len(b), s, err, want)
	}
}

// same holds what Same returns, both ways about, against what is wanted.
func same(t *testing.T, s, u api.System, want bool) {
	t.Helper()
	if Same(s, u) != want || Same(u, s) != want {
		t.Errorf("Same(%v, %v) = %v, and %v the other way about, want %v", s, u, Same(s, u), Same(u, s), want)
	}
}

// alike reports whether two systems are equal by all their parts, nil lists being equal to empty ones.
func alike(s, u api.System) bool {
	return reflect.DeepEqual(plain(s), plain(u))
}

// plain returns a copy of s of which all lists are there and share nothing with s.
func plain(s api.System) api.System {
	s.Tasks = append([]api.Task{}, s.Tasks...)
	for i := range s.Tasks {
		s.Tasks[i].Sections = append([]api.Section{}, s.Tasks[i].Sections...)
	}
	return s
}

// one returns the system of the chapter's example.
func one() api.System {
	return api.System{Cores: 1, Policy: api.Fixed, Protocol: api.Msrp, Latency: 1, Tasks: []api.Task{{Period: 10, Deadline: 10, Wcet: 3}}}
}

// ordinary returns a system of which all numbers differ but those of how many there are, and its numbers.
func ordinary() (api.System, []int) {
	s := api.System{
		Cores: 20, Policy: 21, Protocol: 22, Release: 23, Switch: 24, Finish: 25, Latency: 26, Resources: 27,
		Tasks: []api.Task{
			{Period: 300, Deadline: 31, Wcet: 32, Sections: []api.Section{{At: 33, Res: 34, Len: 35}}},
			{Period: 36, Deadline: 37, Wcet: 38},
			{Period: 39, Deadline: 40, Wcet: 41, Sections: []api.Section{{At: 42, Res: 43, Len: 44}, {At: 45, Res: 46, Len: 47}}},
		},
	}
	return s, []int{1, 20, 21, 22, 23, 24, 25, 26, 27, 3, 300, 31, 32, 1, 33, 34, 35, 36, 37, 38, 0, 39, 40, 41, 2, 42, 43, 44, 45, 46, 47}
}

// sized returns a system with a task for each of these numbers of sections; its numbers differ.
func sized(sections ...int) api.System {
	n := 0
	count := func() int { n++; return n }
	s := api.System{Cores: count(), Policy: count(), Protocol: count(), Release: count(), Switch: count(), Finish: count(), Latency: count(), Resources: count()}
	for _, size := range sections {
		task := api.Task{Period: count(), Deadline: count(), Wcet: count()}
		for range size {
			task.Sections = append(task.Sections, api.Section{At: count(), Res: count(), Len: count()})
		}
		s.Tasks = append(s.Tasks, task)
	}
	return s
}

// equal returns n numbers that are all the same.
func equal(n, value int) []int { return slices.Repeat([]int{value}, n) }

// places returns where the numbers of s stand, in their order, but the version and those of how many there are.
func places(s *api.System) []*int {
	l := []*int{&s.Cores, &s.Policy, &s.Protocol, &s.Release, &s.Switch, &s.Finish, &s.Latency, &s.Resources}
	for i := range s.Tasks {
		task := &s.Tasks[i]
		l = append(l, &task.Period, &task.Deadline, &task.Wcet)
		for j := range task.Sections {
			l = append(l, &task.Sections[j].At, &task.Sections[j].Res, &task.Sections[j].Len)
		}
	}
	return l
}

// listed returns the numbers of s, as the chapter tells their order.
func listed(s api.System) []int {
	l := []int{1, s.Cores, s.Policy, s.Protocol, s.Release, s.Switch, s.Finish, s.Latency, s.Resources, len(s.Tasks)}
	for _, task := range s.Tasks {
		l = append(l, task.Period, task.Deadline, task.Wcet, len(task.Sections))
		for _, c := range task.Sections {
			l = append(l, c.At, c.Res, c.Len)
		}
	}
	return l
}

// source returns a function that answers numbers from 0 to n - 1 in a fixed order.
func source() func(n int) int {
	state := uint64(1)
	return func(n int) int {
		state = state*6364136223846793005 + 1442695040888963407
		return int(state>>33) % n
	}
}

// anySystem returns a system that has an encoding, with numbers of all sizes, in a fixed order.
func anySystem(next func(int) int) api.System {
	sections := make([]int, next(api.MaxTasks+1))
	for i := range sections {
		sections[i] = next(api.MaxSections + 1)
	}
	s := sized(sections...)
	for _, place := range places(&s) {
		*place = (next(1<<31)<<31 | next(1<<31)) >> next(62)
		if next(20) == 0 {
			*place = greatest - next(2)
		}
	}
	return s
}

// P7.1

func TestExamplesOfTheChapter(t *testing.T) {
	const content = "\x01\x01\x01\x01\x00\x00\x00\x01\x00\x01\x0a\x0a\x03\x00"
	if b, err := Encode(one()); b != content+"\xa4\x5d" || err != api.OK {
		t.Errorf("Encode = % x, %d", b, err)
	}
	if s, err := Decode(content + "\xa4\x5d"); !alike(s, one()) || err != api.OK {
		t.Errorf("Decode = %v, %d", s, err)
	}
	rejectsBytes(t, sealedBytes(t, content[:len(content)-1]), api.ErrForm)
}

// TestBytesOfSystems: with checksums that were reckoned apart.
func TestBytesOfSystems(t *testing.T) {
	for _, c := range []struct {
		b string
		s api.System
	}{
		{"\x01\x00\x00\x00\x00\x00\x00\x00\x00\x00\x8e\x7c", api.System{}},
		{
			"\x01\x02\x03\x04\x05\x06\x07\x08\x09\x02\xac\x02\x0b\x0c\x01\x0d\x0e\x0f\x10\x11\x12\x00\x16\x9b",
			api.System{
				Cores: 2, Policy: 3, Protocol: 4, Release: 5, Switch: 6, Finish: 7, Latency: 8, Resources: 9,
				Tasks: []api.Task{
					{Period: 300, Deadline: 11, Wcet: 12, Sections: []api.Section{{At: 13, Res: 14, Len: 15}}},
					{Period: 16, Deadline: 17, Wcet: 18},
				},
			},
		},
	} {
		if b, err := Encode(c.s); b != c.b || err != api.OK {
			t.Errorf("Encode(%v) = % x, %d, want % x", c.s, b, err, c.b)
		}
		if s, err := Decode(c.b); !alike(s, c.s) || err != api.OK {
			t.Errorf("Decode(% x) = %v, %d, want %v", c.b, s, err, c.s)
		}
	}
}

func TestNumbersInTheirOrder(t *testing.T) {
	s, l := ordinary()
	encodes(t, s, l...)
	decodes(t, s, l...)
	encodes(t, one(), 1, 1, 1, 1, 0, 0, 0, 1, 0, 1, 10, 10, 3, 0)
	decodes(t, one(), 1, 1, 1, 1, 0, 0, 0, 1, 0, 1, 10, 10, 3, 0)
}

// TestEmptyLists: nil or empty, they are encoded alike.
func TestEmptyLists(t *testing.T) {
	for _, tasks := range [][]api.Task{nil, {}, make([]api.Task, 0, 5)} {
		encodes(t, api.System{Cores: 7, Tasks: tasks}, 1, 7, 0, 0, 0, 0, 0, 0, 0, 0)
	}
	for _, sections := range [][]api.Section{nil, {}, make([]api.Section, 0, 5)} {
		encodes(t, api.System{Tasks: []api.Task{{Wcet: 9, Sections: sections}}}, 1, 0, 0, 0, 0, 0, 0, 0, 0, 1, 0, 0, 9, 0)
	}
}

func TestHowManyTasksAndSections(t *testing.T) {
	for tasks := range api.MaxTasks + 1 {
		for sections := range api.MaxSections + 1 {
			s := sized(equal(tasks, sections)...)
			encodes(t, s, listed(s)...)
			decodes(t, s, listed(s)...)
		}
	}
	if l := listed(sized(equal(api.MaxTasks, api.MaxSections)...)); len(l) != 394 {
		t.Errorf("the greatest system has %d numbers", len(l))
	}
}

func TestTooManyTasks(t *testing.T) {
	for _, tasks := range []int{25, 26, 48, 256, 2000, 100000} {
		refuses(t, sized(equal(tasks, 0)...), api.ErrLong)
		refuses(t, api.System{Tasks: make([]api.Task, tasks)}, api.ErrLong)
	}
	refuses(t, sized(equal(25, api.MaxSections)...), api.ErrLong)
	refuses(t, sized(equal(25, api.MaxSections+1)...), api.ErrLong)
}

// TestTooManySections: whichever task it is that has them.
func TestTooManySections(t *testing.T) {
	for _, tasks := range []int{1, 2, 7, api.MaxTasks} {
		for at := range tasks {
			for _, size := range []int{5, 6, 8, 100, 3000} {
				sections := equal(tasks, api.MaxSections)
				sections[at] = size
				refuses(t, sized(sections...), api.ErrLong)
			}
		}
	}
}

// TestNumbersAtTheBounds: at every place of a system.
func TestNumbersAtTheBounds(t *testing.T) {
	for _, s := range []api.System{one(), sized(), sized(1, 0, 2), sized(equal(api.MaxTasks, api.MaxSections)...)} {
		for i := range places(&s) {
			for _, n := range []int{0, 1, greatest - 1, greatest} {
				u := plain(s)
				*places(&u)[i] = n
				encodes(t, u, listed(u)...)
				decodes(t, u, listed(u)...)
			}
			for _, n := range []int{-1, -2, -greatest, least, least + 1, greatest + 1, greatest + 2, most - 1, most} {
				u := plain(s)
				*places(&u)[i] = n
				refuses(t, u, api.ErrArg)
			}
		}
	}
}

// TestAllNumbersAtTheBounds: the greatest system of the greatest numbers is still short enough to be sealed.
func TestAllNumbersAtTheBounds(t *testing.T) {
	for _, n := range []int{0, 1, greatest - 1, greatest} {
		s := sized(equal(api.MaxTasks, api.MaxSections)...)
		for _, place := range places(&s) {
			*place = n
		}
		encodes(t, s, listed(s)...)
		decodes(t, s, listed(s)...)
	}
}

// TestMeaningIsNotChecked: systems that no kernel could run.
func TestMeaningIsNotChecked(t *testing.T) {
	s := api.System{Cores: 1000, Policy: 9, Protocol: 77, Release: greatest, Resources: 500, Tasks: []api.Task{{Wcet: 5, Sections: []api.Section{{At: 8, Res: 600}, {At: 2, Res: 1, Len: greatest}}}}}
	encodes(t, s, 1, 1000, 9, 77, greatest, 0, 0, 0, 500, 1, 0, 0, 5, 2, 8, 600, 0, 2, 1, greatest)
	decodes(t, s, listed(s)...)
}

// TestTooLongAndWrong: that there are too many is named first, wherever the wrong number is.
func TestTooLongAndWrong(t *testing.T) {
	for _, sections := range [][]int{equal(25, 0), {5}, {1, 5, 1}, {0, 0, 2, 5}, equal(25, 5)} {
		s := sized(sections...)
		for i := range places(&s) {
			for _, n := range []int{-1, least, greatest + 1, most} {
				u := plain(s)
				*places(&u)[i] = n
				refuses(t, u, api.ErrLong)
			}
		}
	}
	refuses(t, api.System{Cores: -1, Tasks: equalTasks(25, -1)}, api.ErrLong)
	refuses(t, api.System{Cores: -1, Tasks: equalTasks(24, -1)}, api.ErrArg)
}

// equalTasks returns n tasks of which all numbers are the same.
func equalTasks(n, value int) []api.Task {
	return slices.Repeat([]api.Task{{Period: value, Deadline: value, Wcet: value}}, n)
}

// TestArgumentIsNotChanged: nor what stands behind its lists' lengths.
func TestArgumentIsNotChanged(t *testing.T) {
	whole := sized(1, 2, 3, 4, 2, 1)
	s := whole
	s.Tasks = slices.Clone(whole.Tasks)[:4]
	for i := range s.Tasks {
		s.Tasks[i].Sections = slices.Clone(whole.Tasks[i].Sections)[:1]
	}
	u := plain(s)
	Encode(s)
	Same(s, u)
	Same(u, s)
	s.Tasks[2].Wcet, u.Tasks[2].Wcet = -1, -1
	Encode(s)
	if !alike(s, u) {
		t.Errorf("the argument was changed: %v, want %v", s, u)
	}
	for i := range s.Tasks {
		s.Tasks[i].Sections = s.Tasks[i].Sections[:i+1]
	}
	s.Tasks = s.Tasks[:6]
	s.Tasks[2].Wcet = whole.Tasks[2].Wcet
	if !alike(s, whole) {
		t.Errorf("behind the lengths something was changed: %v, want %v", s, whole)
	}
}

// P7.2

// TestErrorsOfOpen: each of them, and ahead of all that the content could tell.
func TestErrorsOfOpen(t *testing.T) {
	rejectsBytes(t, "", api.ErrShort)
	for i := range 256 {
		rejectsBytes(t, string([]byte{byte(i)}), api.ErrShort)
	}
	for _, size := range []int{100003, 100004, 1 << 20} {
		rejectsBytes(t, strings.Repeat("\x01", size), api.ErrLong)
	}
	content := strings.Repeat("\x01", 100001)
	sum := pack.Sum(content)
	rejectsBytes(t, content+string([]byte{byte(sum >> 8), byte(sum)}), api.ErrLong)
	b, _ := Encode(one())
	for cut := 2; cut < len(b); cut++ {
		rejectsBytes(t, b[:cut], api.ErrSum)
	}
	for bit := range len(b) * 8 {
		wrong := []byte(b)
		wrong[bit/8] ^= 1 << (bit % 8)
		rejectsBytes(t, string(wrong), api.ErrSum)
	}
	rejectsBytes(t, b+"\x01", api.ErrSum)
	rejectsBytes(t, "\x00\x00", api.ErrSum)
	rejectsBytes(t, "\x02\x80\x00\x00", api.ErrSum)
}

// TestErrorsOfRead: each of them, and ahead of all that the numbers could tell.
func TestErrorsOfRead(t *testing.T) {
	const right = "\x01\x01\x01\x01\x00\x00\x00\x01\x00\x01\x0a\x0a\x03\x00"
	great := strings.Repeat("\xff", 8) + "\x7f"
	for _, c := range []struct {
		content string
		err     api.Errno
	}{
		{"\x80", api.ErrShort}, {right + "\x80", api.ErrShort}, {right[:13] + "\x80", api.ErrShort},
		{"\x02\x80", api.ErrShort}, {right[:9] + "\x19\xff", api.ErrShort}, {right[:13] + "\x05\xff", api.ErrShort},
		{"\x80\x00", api.ErrForm}, {"\x81\x00" + right[1:], api.ErrForm}, {right[:13] + "\x80\x00", api.ErrForm}, {right[:9] + "\x19\x80\x00", api.ErrForm},
		{great, api.ErrLong}, {"\x02" + great, api.ErrLong}, {right + great, api.ErrLong}, {right[:9] + great, api.ErrLong}, {right[:13] + great, api.ErrLong},
		{right[:12] + great, api.ErrLong}, {right[:10] + great, api.ErrLong},
		{strings.Repeat("\x01", 2001), api.ErrLong}, {strings.Repeat("\x00", 2001), api.ErrLong}, {right + strings.Repeat("\x00", 1987), api.ErrLong},
		{strings.Repeat("\x00", 100000), api.ErrLong}, {strings.Repeat("\x80", 100000), api.ErrShort},
	} {
		rejectsBytes(t, sealedBytes(t, c.content), c.err)
	}
}

// TestFewerThanTenNumbers: whether the first one is 1 or not.
func TestFewerThanTenNumbers(t *testing.T) {
	for count := range 10 {
		rejects(t, api.ErrForm, equal(count, 0)...)
		rejects(t, api.ErrForm, equal(count, 1)...)
		rejects(t, api.ErrForm, equal(count, 2)...)
		rejects(t, api.ErrForm, equal(count, 25)...)
		rejects(t, api.ErrForm, equal(count, greatest)...)
	}
	decodes(t, api.System{}, 1, 0, 0, 0, 0, 0, 0, 0, 0, 0)
	rejectsBytes(t, "\xff\xff", api.ErrForm) // the checksum of no numbers
}

func TestFirstNumberIsNotOne(t *testing.T) {
	for _, s := range []api.System{{}, one(), sized(1, 0, 2)} {
		l := listed(s)
		for _, n := range []int{0, 2, 3, 127, 128, 129, 1<<32 + 1, greatest - 1, greatest} {
			l[0] = n
			rejects(t, api.ErrForm, l...)
		}
		l[0] = 1
		decodes(t, s, l...)
	}
}

// TestNumbersEnd: at every place before the end of a system, also before a task's number of sections and within its sections.
func TestNumbersEnd(t *testing.T) {
	for _, s := range []api.System{one(), sized(0, 0), sized(1), sized(4), sized(1, 0, 2), sized(equal(api.MaxTasks, api.MaxSections)...)} {
		l := listed(s)
		for cut := range l {
			rejects(t, api.ErrForm, l[:cut]...)
		}
		decodes(t, s, l...)
	}
}

func TestNumbersLeftOver(t *testing.T) {
	for _, s := range []api.System{{}, one(), sized(1, 0, 2), sized(equal(api.MaxTasks, api.MaxSections)...)} {
		l := listed(s)
		for _, n := range []int{0, 1, 5, 25, greatest} {
			for _, count := range []int{1, 2, 3, 4, 10, 2000 - len(l)} {
				rejects(t, api.ErrForm, append(slices.Clone(l), equal(count, n)...)...)
			}
		}
		rejects(t, api.ErrForm, append(slices.Clone(l), l...)...)
	}
}

// TestNumberOfTasksTooGreat: whether so many tasks follow or none.
func TestNumberOfTasksTooGreat(t *testing.T) {
	for _, count := range []int{25, 26, 127, 128, 255, 256, 281, 1 << 31, 1 << 32, 1<<32 + 1, greatest - 1, greatest} {
		for _, behind := range [][]int{nil, {0}, {0, 0, 0, 0}, {0, 0, 0, 5}, {0, 0, 0, greatest}, equal(100, 0), equal(1990, 0)} {
			rejects(t, api.ErrLong, append([]int{1, 0, 0, 0, 0, 0, 0, 0, 0, count}, behind...)...)
		}
	}
	rejects(t, api.ErrLong, listed(sized(equal(25, 0)...))...)
	rejects(t, api.ErrLong, listed(sized(equal(25, 4)...))...)
	decodes(t, sized(equal(24, 0)...), listed(sized(equal(24, 0)...))...)
}

// TestNumberOfSectionsTooGreat: of the first, the middle and the last task, whether so many sections follow or none.
func TestNumberOfSectionsTooGreat(t *testing.T) {
	l := listed(sized(2, 0, 4))
	for _, at := range []int{13, 23, 27} {
		for _, count := range []int{5, 6, 127, 128, 256, 260, 1 << 31, 1 << 32, 1<<32 + 1, greatest - 1, greatest} {
			wrong := slices.Clone(l)
			wrong[at] = count
			rejects(t, api.ErrLong, wrong...)
			rejects(t, api.ErrLong, wrong[:at+1]...)
			rejects(t, api.ErrLong, append(wrong, equal(1900, 1)...)...)
		}
	}
	rejects(t, api.ErrLong, listed(sized(5))...)
	rejects(t, api.ErrLong, listed(sized(0, 4, 5))...)
	decodes(t, sized(0, 4, 4), listed(sized(0, 4, 4))...)
}

// TestSeveralErrors: the one that comes first from the beginning.
func TestSeveralErrors(t *testing.T) {
	head := []int{1, 0, 0, 0, 0, 0, 0, 0, 0}
	for _, c := range []struct {
		behind []int
		err    api.Errno
	}{
		{[]int{25}, api.ErrLong},                                    // too many tasks, and the numbers end
		{[]int{25, 0, 0, 0, 5}, api.ErrLong},                        // too many tasks, and sections
		{[]int{2, 0, 0, 0}, api.ErrForm},                            // the numbers end before a number of sections
		{[]int{2, 0, 0, 0, 5}, api.ErrLong},                         // too many sections, and the numbers end
		{[]int{2, 0, 0, 0, 0, 0, 0, 0, 5, 1}, api.ErrLong},          // too many sections of the last task
		{[]int{2, 0, 0, 0, 1, 9, 9}, api.ErrForm},                   // the numbers end within the sections
		{[]int{2, 0, 0, 0, 4, 5, 5, 5, 5, 5, 5, 5, 5}, api.ErrForm}, // 5 is no number of sections here
		{[]int{3, 0, 0, 0, 0, 0, 0, 0, 5, 0, 0, 0, 9}, api.ErrLong}, // two tasks with too many
		{[]int{1, 0, 0, 0, 5, 1, 1, 1}, api.ErrLong},                // too many, and they end
		{[]int{0, 5}, api.ErrForm},                                  // left over, whatever they look like
		{[]int{0, 0, 0, 0, 5}, api.ErrForm},                         // left over, whatever they look like
		{[]int{1, 0, 0, 0, 0, 0, 0, 0, 5}, api.ErrForm},             // left over, whatever they look like
		{[]int{1, 0, 0, 0, 1, 25, 25, 25, 25, 25, 25}, api.ErrForm}, // left over, whatever they look like
		{[]int{24, 0, 0, 0, 0}, api.ErrForm},                        // so many tasks may be, but are not
		{[]int{1, 0, 0, 0, 4, 1, 1, 1, 1, 1, 1, 1, 1}, api.ErrForm}, // so many sections may be, but are not
		{[]int{1, greatest, greatest, greatest}, api.ErrForm},       // great numbers, and they end
		{[]int{1, greatest, greatest, greatest, 5, 1}, api.ErrLong}, // great numbers, and too many sections
		{[]int{1, greatest, greatest, greatest, greatest}, api.ErrLong},
	} {
		l := append(slices.Clone(head), c.behind...)
		rejects(t, c.err, l...)
		l[0] = 2
		rejects(t, api.ErrForm, l...)
		rejects(t, api.ErrForm, l[:9]...)
	}
	rejects(t, api.ErrForm, 2, 0, 0, 0, 0, 0, 0, 0, 0, 25, 0, 0, 0, 5)
	rejects(t, api.ErrForm, 0, 25, 25, 25, 25, 25, 25, 25, 25, 25)
}

// spell returns the system that the numbers are, cut off piece by piece; and the error that the chapter asks for.
func spell(l []int) (api.System, api.Errno) {
	if len(l) < 10 || l[0] != 1 {
		return api.System{}, api.ErrForm
	}
	if l[9] > 24 {
		return api.System{}, api.ErrLong
	}
	s := api.System{Cores: l[1], Policy: l[2], Protocol: l[3], Release: l[4], Switch: l[5], Finish: l[6], Latency: l[7], Resources: l[8], Tasks: make([]api.Task, l[9])}
	l = l[10:]
	for i := range s.Tasks {
		switch {
		case len(l) < 4:
			return api.System{}, api.ErrForm
		case l[3] > 4:
			return api.System{}, api.ErrLong
		case len(l) < 4+3*l[3]:
			return api.System{}, api.ErrForm
		}
		s.Tasks[i] = api.Task{Period: l[0], Deadline: l[1], Wcet: l[2]}
		end := 4 + 3*l[3]
		for at := 4; at < end; at += 3 {
			s.Tasks[i].Sections = append(s.Tasks[i].Sections, api.Section{At: l[at], Res: l[at+1], Len: l[at+2]})
		}
		l = l[end:]
	}
	if len(l) > 0 {
		return api.System{}, api.ErrForm
	}
	return s, api.OK
}

// spelt holds Decode against what is spelt, and what is decoded against what is encoded: P7.3 for any numbers.
func spelt(t *testing.T, l []int) {
	t.Helper()
	want, err := spell(l)
	if err != api.OK {
		rejects(t, err, l...)
		return
	}
	decodes(t, want, l...)
	encodes(t, want, l...)
}

// everyList calls f with all lists of up to size numbers of the alphabet.
func everyList(alphabet []int, size int, f func(l []int)) {
	var grow func(l []int)
	grow = func(l []int) {
		f(l)
		if len(l) == size {
			return
		}
		for _, n := range alphabet {
			grow(append(slices.Clone(l), n))
		}
	}
	grow(nil)
}

// TestEveryListBehindTheHead: whatever numbers of tasks and sections they tell.
func TestEveryListBehindTheHead(t *testing.T) {
	head := []int{1, 2, 3, 4, 5, 6, 7, 8, 9}
	behind := func(l []int) { spelt(t, append(slices.Clone(head), l...)) }
	everyList([]int{0, 1, 2, 4, 5, 24, 25}, 5, behind)
	everyList([]int{0, 1, 2}, 9, behind)
	everyList([]int{0, 1}, 13, behind)
	everyList([]int{0, 1, 2, 25}, 5, func(l []int) { spelt(t, l) })
}

// TestEveryNumberExchanged: of an ordinary system; left out, or there once more.
func TestEveryNumberExchanged(t *testing.T) {
	for _, s := range []api.System{one(), sized(1, 0, 2), sized(4, 4), sized(equal(api.MaxTasks, 1)...)} {
		l := listed(s)
		for i := range l {
			for _, n := range []int{0, 1, 2, 3, 4, 5, 6, 23, 24, 25, 26, greatest - 1, greatest} {
				other := slices.Clone(l)
				other[i] = n
				spelt(t, other)
				spelt(t, slices.Insert(slices.Clone(l), i, n))
			}
			spelt(t, slices.Delete(slices.Clone(l), i, i+1))
		}
	}
}

// TestListsInAFixedOrder: many of them the numbers of a system but for a few.
func TestListsInAFixedOrder(t *testing.T) {
	next := source()
	for range 5000 {
		l := listed(anySystem(next))
		for range next(3) {
			l[next(len(l))] = next(30)
		}
		spelt(t, l)
		spelt(t, l[:next(len(l)+1)])
	}
}

// TestStringsInAFixedOrder: no bytes break Decode, with a right checksum or without.
func TestStringsInAFixedOrder(t *testing.T) {
	next := source()
	for range 20000 {
		b := make([]byte, next(60))
		for i := range b {
			b[i] = byte(next(256) >> next(8))
		}
		for _, s := range []string{string(b), sealedBytes(t, string(b)), sealedBytes(t, "\x01\x02\x01\x01\x00\x00\x00\x01\x01"+string(b))} {
			if u, err := Decode(s); err != api.OK && !reflect.DeepEqual(u, api.System{}) {
				t.Errorf("Decode(% x) = %v, %d", s, u, err)
			} else if again, _ := Encode(u); err == api.OK && again != s {
				t.Errorf("Decode(% x) = %v, but Encode of it % x", s, u, again)
			}
		}
	}
}

// TestResultsAreNewMemory: no two lists share any, their spare capacity included; neither of one result nor of two.
func TestResultsAreNewMemory(t *testing.T) {
	for _, s := range []api.System{sized(1, 0, 2), sized(3, 3, 3), sized(1, 2, 3, 4, 0, 1), sized(equal(api.MaxTasks, api.MaxSections)...)} {
		b, _ := Encode(s)
		for at := range s.Tasks {
			u, _ := Decode(b)
			other, _ := Decode(b)
			spoilSections(u.Tasks[at].Sections)
			want := plain(s)
			want.Tasks[at].Sections = u.Tasks[at].Sections
			if !alike(u, want) {
				t.Errorf("the sections of task %d share memory: %v, want %v", at, u, want)
			}
			spoilTasks(u.Tasks)
			if !alike(other, s) {
				t.Errorf("two results share memory: %v, want %v", other, s)
			}
		}
		if u, err := Decode(b); !alike(u, s) || err != api.OK {
			t.Errorf("Decode(% x) = %v, %d, want %v", b, u, err, s)
		}
	}
}

// spoilSections overwrites a list up to its capacity.
func spoilSections(l []api.Section) {
	for i := range l[:cap(l)] {
		l[:cap(l)][i] = api.Section{At: 999, Res: 999, Len: 999}
	}
}

// spoilTasks overwrites a list up to its capacity.
func spoilTasks(l []api.Task) {
	for i := range l[:cap(l)] {
		l[:cap(l)][i] = api.Task{Period: 999}
	}
}

func TestSameOfEqualSystems(t *testing.T) {
	s, _ := ordinary()
	for _, s := range []api.System{{}, one(), s, sized(1, 0, 2), sized(equal(api.MaxTasks, api.MaxSections)...)} {
		same(t, s, s, true)
		same(t, s, plain(s), true)
	}
}

// TestSameOfEmptyLists: nil or empty.
func TestSameOfEmptyLists(t *testing.T) {
	same(t, api.System{}, api.System{Tasks: []api.Task{}}, true)
	same(t, api.System{Tasks: make([]api.Task, 1)}, api.System{Tasks: []api.Task{{Sections: []api.Section{}}}}, true)
	same(t, api.System{}, api.System{Tasks: make([]api.Task, 1)}, false)
	same(t, api.System{Tasks: make([]api.Task, 1)}, api.System{Tasks: []api.Task{{Sections: make([]api.Section, 1)}}}, false)
}

// TestSameOfOneOtherNumber: at every place, also of systems that have no encoding.
func TestSameOfOneOtherNumber(t *testing.T) {
	for _, s := range []api.System{one(), sized(), sized(1, 0, 2), sized(equal(api.MaxTasks, api.MaxSections)...), sized(equal(30, 1)...), sized(0, 9, 0)} {
		for i := range places(&s) {
			for _, n := range []int{-1, least, most, greatest, greatest + 1, 1<<32 + *places(&s)[i], *places(&s)[i] + 1, *places(&s)[i] - 1} {
				u := plain(s)
				*places(&u)[i] = n
				same(t, s, u, false)
				same(t, u, plain(u), true)
			}
		}
	}
}

// TestSameOfOtherSizes: more tasks, or more sections, at the end or elsewhere.
func TestSameOfOtherSizes(t *testing.T) {
	sizes := [][]int{{}, {0}, {1}, {0, 0}, {1, 0}, {0, 1}, {1, 1}, {2, 0}, {0, 2}, {4}, {5}, {4, 4}, {4, 5}, equal(24, 0), equal(25, 0), equal(26, 0), equal(24, 5)}
	for i, a := range sizes {
		for j, b := range sizes {
			same(t, sized(a...), sized(b...), i == j)
			same(t, zeros(a...), zeros(b...), i == j)
		}
	}
}

// zeros returns a system like sized, of which all numbers are 0.
func zeros(sections ...int) api.System {
	s := sized(sections...)
	for _, place := range places(&s) {
		*place = 0
	}
	return s
}

// TestSameOfOtherShapes: systems whose numbers, but for those of how many there are, are the same in the same order.
func TestSameOfOtherShapes(t *testing.T) {
	a := api.System{Tasks: []api.Task{{Period: 1, Deadline: 2, Wcet: 3, Sections: []api.Section{{At: 4, Res: 5, Len: 6}}}, {Period: 7, Deadline: 8, Wcet: 9}}}
	b := api.System{Tasks: []api.Task{{Period: 1, Deadline: 2, Wcet: 3}, {Period: 4, Deadline: 5, Wcet: 6, Sections: []api.Section{{At: 7, Res: 8, Len: 9}}}}}
	c := api.System{Tasks: []api.Task{{Period: 1, Deadline: 2, Wcet: 3}, {Period: 4, Deadline: 5, Wcet: 6}, {Period: 7, Deadline: 8, Wcet: 9}}}
	d := api.System{Tasks: []api.Task{{Period: 1, Deadline: 2, Wcet: 3, Sections: []api.Section{{At: 4, Res: 5, Len: 6}, {At: 7, Res: 8, Len: 9}}}}}
	all := []api.System{a, b, c, d}
	for i := range all {
		for j := range all {
			same(t, all[i], all[j], i == j)
		}
	}
}

// TestSameOfOtherOrders: tasks or sections that are exchanged, numbers that are exchanged.
func TestSameOfOtherOrders(t *testing.T) {
	s := sized(2, 2)
	u := plain(s)
	u.Tasks[0], u.Tasks[1] = u.Tasks[1], u.Tasks[0]
	same(t, s, u, false)
	u = plain(s)
	u.Tasks[1].Sections[0], u.Tasks[1].Sections[1] = u.Tasks[1].Sections[1], u.Tasks[1].Sections[0]
	same(t, s, u, false)
	for i := range places(&s) {
		for j := range i {
			u = plain(s)
			a, b := places(&u)[i], places(&u)[j]
			*a, *b = *b, *a
			same(t, s, u, false)
		}
	}
}

// TestSameOfGreatSystems: more than can be encoded.
func TestSameOfGreatSystems(t *testing.T) {
	s := sized(equal(3000, 2)...)
	u := plain(s)
	same(t, s, u, true)
	u.Tasks[2999].Sections[1].Len++
	same(t, s, u, false)
	s = sized(10000)
	u = plain(s)
	same(t, s, u, true)
	u.Tasks[0].Sections[9999].At = -1
	same(t, s, u, false)
}

// P7.3

func TestDecodingWhatIsEncoded(t *testing.T) {
	next := source()
	for range 5000 {
		s := anySystem(next)
		b, err := Encode(s)
		if err != api.OK {
			t.Fatalf("Encode(%v): %d", s, err)
		}
		u, err := Decode(b)
		if err != api.OK || !alike(s, u) {
			t.Fatalf("Decode(% x) = %v, %d, want %v", b, u, err, s)
		}
		same(t, s, u, true)
		if again, err := Encode(u); again != b || err != api.OK {
			t.Fatalf("Encode(%v) = % x, %d, want % x", u, again, err, b)
		}
	}
}

// TestOtherSystemsHaveOtherBytes: as often as Same says that they are not the same.
func TestOtherSystemsHaveOtherBytes(t *testing.T) {
	next := source()
	seen := map[string]api.System{}
	for range 3000 {
		sections := make([]int, next(3))
		for i := range sections {
			sections[i] = next(2)
		}
		s := zeros(sections...)
		for range next(3) {
			*places(&s)[next(len(places(&s)))] = next(2)
		}
		b, _ := Encode(s)
		if u, ok := seen[b]; ok {
			same(t, s, u, true)
		}
		seen[b] = s
	}
	for b, s := range seen {
		for c, u := range seen {
			if Same(s, u) != (b == c) {
				t.Fatalf("Same(%v, %v) = %v, with the bytes % x and % x", s, u, Same(s, u), b, c)
			}
		}
	}
}

// Ways

// sources returns the files of the package that are no tests.
func sources(t *testing.T) map[string]*ast.File {
	t.Helper()
	names, err := filepath.Glob("*.go")
	if err != nil || len(names) == 0 {
		t.Fatal(names, err)
	}
	files := map[string]*ast.File{}
	for _, name := range names {
		if strings.HasSuffix(name, "_test.go") {
			continue
		}
		file, err := parser.ParseFile(token.NewFileSet(), name, nil, 0)
		if err != nil {
			t.Fatal(err)
		}
		files[name] = file
	}
	return files
}

// TestImports: the chapter lets the layer import packages api and pack only.
func TestImports(t *testing.T) {
	for name, file := range sources(t) {
		for _, i := range file.Imports {
			if i.Path.Value != `"tourbillon/api"` && i.Path.Value != `"tourbillon/pack"` {
				t.Errorf("%s imports %s", name, i.Path.Value)
			}
		}
	}
}

// TestTheMethodOfTheReaderIsPassed: as a value, not called there.
func TestTheMethodOfTheReaderIsPassed(t *testing.T) {
	methods := map[string]bool{}
	for _, file := range sources(t) {
		for _, d := range file.Decls {
			if f, ok := d.(*ast.FuncDecl); ok && f.Recv != nil {
				methods[f.Name.Name] = true
			}
		}
	}
	passed := 0
	for _, file := range sources(t) {
		ast.Inspect(file, func(n ast.Node) bool {
			if call, ok := n.(*ast.CallExpr); ok {
				for _, arg := range call.Args {
					if s, ok := arg.(*ast.SelectorExpr); ok && methods[s.Sel.Name] {
						passed++
					}
				}
			}
			return true
		})
	}
	if passed == 0 {
		t.Error("no method is passed as a value")
	}
}

// TestReadersAreApart: each method value keeps the place of its own reader, and stays at the end.
func TestReadersAreApart(t *testing.T) {
	takes := func(next func() (int, bool), want int, found bool) {
		t.Helper()
		if n, ok := next(); n != want || ok != found {
			t.Errorf("next = %d, %v, want %d, %v", n, ok, want, found)
		}
	}
	l := []int{7, 0}
	a, b := reader{l}, reader{l}
	first, second, again := a.next, b.next, a.next
	takes(first, 7, true)
	takes(second, 7, true)
	takes(again, 0, true)
	takes(first, 0, false)
	takes(again, 0, false)
	takes(second, 0, true)
	takes(second, 0, false)
	if !slices.Equal(l, []int{7, 0}) {
		t.Errorf("the numbers were changed: %v", l)
	}
}
