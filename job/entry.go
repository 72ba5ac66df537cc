package job

// known is what is known of a task, whatever its jobs do.
type known struct{ period, wcet int }

// arriving returns the state of a job of the task that arrives now and was asked for with this demand.
func (k known) arriving(now, demand int) State {
	return State{Active: true, Arrival: now, Demand: min(demand, k.wcet), Cut: demand > k.wcet}
}

// after returns the first tick at which a job of the task may arrive after one that arrives now. As ticks and periods are small, it does not overflow; it may be greater than the last tick, and then no job arrives any more.
func (k known) after(now int) int { return now + k.period }

// entry is what the book has of a task.
type entry struct {
	known
	pending int   // the requested demand; 0: no job is pending
	first   int   // the first tick at which a job may arrive; 0 as long as none has
	active  State // zero: no job is active
	worked  int   // the tick of the last unit of the active job; noTick: none is done
}

// ask makes a job with this demand pending, if there may be one, and tells whether it did.
func (e *entry) ask(demand int) bool {
	if demand < 1 || e.pending > 0 {
		return false
	}
	e.pending = demand
	return true
}

// next returns the tick at which the pending job may arrive if the current tick is now; noTick if there is no such tick.
func (e *entry) next(now int) int {
	if !isTick(now) || e.pending == 0 || e.active.Active {
		return noTick
	}
	return max(now, e.first)
}

// start makes the pending job active, if it may arrive now, and tells whether it did. That now is a tick is asked here too, as it may be the number noTick that next returns.
func (e *entry) start(now int) bool {
	if !isTick(now) || e.next(now) != now {
		return false
	}
	e.active = e.arriving(now, e.pending)
	e.first = e.after(now)
	e.pending, e.worked = 0, noTick
	return true
}

// work does one unit of the active job, if it may work now, and tells whether it did.
func (e *entry) work(now int) bool {
	if !isTick(now) || !e.active.Active || e.active.Done == e.active.Demand || e.worked == now {
		return false
	}
	e.active.Done++
	e.worked = now
	return true
}

// over ends the active job, if there is one, and tells whether it did.
func (e *entry) over() bool {
	was := e.active.Active
	e.active = State{}
	return was
}
