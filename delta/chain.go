package delta

// timer is a link of the chain. Its gap is the time from the expiry of the timer before it to its own; that of the first timer is from now, so that a tick changes this one gap alone.
type timer struct {
	id, gap int
	next    *timer
}

// find returns the timer before the one with that id, and after how many ticks that one expires; nil and 0 if there is none.
func (l *List) find(id int) (*timer, int) {
	left := 0
	for before := l.head; before.next != nil; before = before.next {
		left += before.next.gap
		if before.next.id == id {
			return before, left
		}
	}
	return nil, 0
}

// placeFor returns the timer behind which one belongs that expires after that many ticks, and the gap that it has there. Those that expire at the same tick stay before it, as they were added earlier.
func (l *List) placeFor(after int) (*timer, int) {
	before, gap := l.head, after
	for before.next != nil && before.next.gap <= gap {
		before = before.next
		gap -= before.gap
	}
	return before, gap
}

// insertBehind adds a timer behind before. The one that follows it keeps its tick, so its gap shrinks.
func (l *List) insertBehind(before *timer, id, gap int) {
	added := &timer{id, gap, before.next}
	before.next = added
	if added.next != nil {
		added.next.gap -= gap
	}
	l.count++
}

// removeBehind removes the timer behind before. The one that followed it keeps its tick, so its gap grows.
func (l *List) removeBehind(before *timer) {
	gone := before.next
	before.next = gone.next
	if gone.next != nil {
		gone.next.gap += gone.gap
	}
	l.count--
}

// expire advances the time by n ticks, removes the timers that expire, and returns their ids. Until the last of them is gone, the first gap counts from the time before the n ticks: n is only held against it, so it may be any number.
func (l *List) expire(n int) []int {
	var ids []int
visit:
	for {
		switch first := l.head.next; {
		case first == nil:
			break visit
		case first.gap > n:
			first.gap -= n
			break visit
		default:
			ids = append(ids, first.id)
			l.removeBehind(l.head)
		}
	}
	return ids
}
