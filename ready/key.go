package ready

// maxLevel is the greatest level, of 53 bits.
const maxLevel = 1<<53 - 1

// A key has the number of a task in its lowest bits, above them a bit that is set if the task is not raised, and its effective level in all the others. No key has more than 59 bits, so none is negative, and no two tasks have the same one.
const (
	taskBits   = 5 // there are at most 32 tasks
	levelShift = taskBits + 1
)

// keyOf returns the key of a task with this effective level: of two tasks, the one with the smaller key comes first.
func keyOf(level int, raised bool, task int) int {
	key := level<<levelShift | task
	if !raised {
		key |= 1 << taskBits
	}
	return key
}

// levelOf returns the effective level that a key has.
func levelOf(key int) int { return key >> levelShift }
