package ring

// maskFor returns the mask of a circular slice that has at least room positions, and at least one: it is all ones, as the size of the slice is a power of two.
func maskFor(room int) int {
	mask := 0
	for mask+1 < room {
		mask = mask<<1 | 1
	}
	return mask
}

// position returns where in items the item is that has place others before it.
func (r *Ring) position(place int) int { return (r.first + place) & r.mask }

// removeAt removes the item that has place others before it.
func (r *Ring) removeAt(place int) {
	if place == 0 {
		r.first = r.position(1)
	} else {
		closeGap(r.items, r.position(place), r.position(r.count-1))
	}
	r.count--
}

// closeGap overwrites the item at gap: those behind it, up to the one at last, move a position forward. If last is less than gap, they go round about.
func closeGap(items []item, gap, last int) {
	if last < gap {
		copy(items[gap:], items[gap+1:])
		items[len(items)-1] = items[0]
		gap = 0
	}
	copy(items[gap:last], items[gap+1:last+1])
}
