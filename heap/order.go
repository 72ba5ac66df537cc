package heap

// nextTurn returns a turn that is later than all the others.
func (h *Heap) nextTurn() int {
	h.turns++
	return h.turns
}

// swap exchanges the items at i and j.
func (h *Heap) swap(i, j int) {
	h.items[i], h.items[j] = h.items[j], h.items[i]
	h.place[h.items[i].id] = i
	h.place[h.items[j].id] = j
}

// rise moves the item at i up until its parent is ahead of it.
func (h *Heap) rise(i int) {
	for i > 0 {
		parent := (i - 1) / 2
		if !ahead(h.items[i], h.items[parent]) {
			return
		}
		h.swap(i, parent)
		i = parent
	}
}

// sink moves the item at i down until it is ahead of its children.
func (h *Heap) sink(i int) {
	for {
		first := h.firstOfFamily(i)
		if first == i {
			return
		}
		h.swap(i, first)
		i = first
	}
}

// firstOfFamily returns which position has the first item: i, or one of its children.
func (h *Heap) firstOfFamily(i int) int {
	first := i
	for child := 2*i + 1; child <= 2*i+2 && child < len(h.items); child++ {
		if ahead(h.items[child], h.items[first]) {
			first = child
		}
	}
	return first
}

// settle moves the item at i to where it belongs, if all the others are in their order. At most one of the two calls moves anything: if the item rises, it leaves at i its former parent, which was ahead of all below.
func (h *Heap) settle(i int) {
	h.rise(i)
	h.sink(i)
}

// removeAt removes the item at i: the last one takes its position.
func (h *Heap) removeAt(i int) {
	last := len(h.items) - 1
	h.swap(i, last)
	delete(h.place, h.items[last].id)
	h.items = h.items[:last]
	// The last item may come from another branch, so it may belong above i as well as below.
	if i < last {
		h.settle(i)
	}
}

// ordered returns a copy of the items, the first one first.
func ordered(items []item) []item {
	list := make([]item, 0, len(items))
	for _, it := range items {
		list = append(list, it)
		for i := len(list) - 1; i > 0 && ahead(list[i], list[i-1]); i-- {
			list[i], list[i-1] = list[i-1], list[i]
		}
	}
	return list
}
