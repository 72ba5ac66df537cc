package ipi

import (
	"tourbillon/api"
)

// note refers to a task, and is due at a tick. Its turn is no other's, so that of two notes one is always ahead.
type note struct{ task, due, turn int }

// ahead tells whether a is taken before b.
func ahead(a, b note) bool {
	if a.due != b.due {
		return a.due < b.due
	}
	return a.turn < b.turn
}

// dueBy returns the notes of core that are due at now or before, in the order in which they are taken. The tasks are gone through, not the map, as that has no order of its own.
func (b *Boxes) dueBy(core, now int) []note {
	var due []note
	for task := range api.MaxTasks {
		if n, ok := b.notes[place{core, task}]; ok && n.due <= now {
			due = inserted(due, n)
		}
	}
	return due
}

// inserted returns the notes, which are in their order, with n among them.
func inserted(notes []note, n note) []note {
	notes = append(notes, n)
	for i := len(notes) - 1; i > 0 && ahead(n, notes[i-1]); i-- {
		notes[i], notes[i-1] = notes[i-1], n
	}
	return notes
}
