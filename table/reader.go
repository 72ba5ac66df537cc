package table

import (
	"tourbillon/api"
)

// How many numbers of a system stand ahead of how many tasks it has, and of a task ahead of how many sections it has; and how many a section has.
const (
	systemNumbersAhead = 9
	taskNumbersAhead   = 3
	sectionSize        = 3
)

// reader hands out numbers, one by one. It panics where they are not those of a table, and read recovers, so that no call between the two has to ask whether there was a number.
type reader struct{ rest []int }

// read returns the system and the entries of which l are the numbers, valid or not; ErrForm if l has not the form of them.
func read(l []int) (s api.System, entries []api.Entry, err api.Errno) {
	defer func() {
		if recover() != nil {
			s, entries, err = api.System{}, nil, api.ErrForm
		}
	}()
	r := &reader{rest: l}
	r.need(r.next() == version)
	s = r.system()
	for range s.Tasks {
		entries = append(entries, r.entry())
	}
	r.need(len(r.rest) == 0)
	return s, entries, api.OK
}

// need stops the reader unless ok.
func (r *reader) need(ok bool) {
	if !ok {
		panic(api.ErrForm)
	}
}

// next takes the next number.
func (r *reader) next() int {
	r.need(len(r.rest) > 0)
	n := r.rest[0]
	r.rest = r.rest[1:]
	return n
}

// skip takes n numbers.
func (r *reader) skip(n int) {
	for range n {
		r.next()
	}
}

// system takes the numbers of a system. It counts what is there, however many tasks and sections are told, as a product of these numbers might overflow.
func (r *reader) system() api.System {
	first := r.rest
	r.skip(systemNumbersAhead)
	for range r.next() {
		r.skip(taskNumbersAhead)
		for range r.next() {
			r.skip(sectionSize)
		}
	}
	s, err := system(first[:len(first)-len(r.rest)])
	r.need(err == api.OK)
	return s
}

// entry takes the numbers of an entry.
func (r *reader) entry() api.Entry {
	var pieces []api.Piece
	for range r.next() {
		pieces = append(pieces, r.piece())
	}
	return api.Entry{Pieces: pieces, Bound: r.next()}
}

// piece takes the numbers of a piece.
func (r *reader) piece() api.Piece {
	var l [4]int
	for i := range l {
		l[i] = r.next()
	}
	return api.Piece{Core: l[0], Budget: l[1], Deadline: l[2], Priority: l[3], Tight: r.flag()}
}

// flag takes a number that stands for a boolean.
func (r *reader) flag() bool {
	n := r.next()
	r.need(n == digit(false) || n == digit(true))
	return n == digit(true)
}
