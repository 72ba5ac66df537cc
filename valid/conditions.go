package valid

import (
	"tourbillon/api"
)

// rightSystem reports whether s satisfies the conditions that are not those of a task.
func rightSystem(s api.System) bool {
	switch {
	case !within(s.Cores, 1, api.MaxCores),
		!rightProtocol(s.Policy, s.Protocol),
		!within(s.Release, 0, api.MaxCost),
		!within(s.Switch, 0, api.MaxCost),
		!within(s.Finish, 0, api.MaxCost),
		!within(s.Latency, 1, api.MaxLatency),
		!within(s.Resources, 0, api.MaxRes),
		!within(len(s.Tasks), 1, api.MaxTasks):
		return false
	}
	return true
}

// rightProtocol reports whether there is such a policy, and whether the protocol goes with it.
func rightProtocol(policy, protocol int) bool {
	switch policy {
	case api.Fixed:
		return protocol == api.Msrp || protocol == api.Mrsp
	case api.Edf:
		return protocol == api.Msrp
	}
	return false
}

// rightTask reports whether t satisfies the conditions that are not those of a section.
func rightTask(t api.Task) bool {
	return within(t.Period, 1, api.MaxTime) &&
		within(t.Deadline, 1, t.Period) &&
		within(t.Wcet, 1, t.Deadline) &&
		len(t.Sections) <= api.MaxSections
}

// rightSection reports whether c satisfies the conditions of a section behind one that ends at from, in that much work, with that many resources.
func rightSection(c api.Section, from, wcet, resources int) bool {
	// Len is held against what At leaves of the work, as At + Len may be no number of 64 bits.
	return c.At >= from &&
		within(c.Res, 0, resources-1) &&
		within(c.Len, 1, wcet-c.At)
}

// within reports whether n is from low to high.
func within(n, low, high int) bool { return low <= n && n <= high }
