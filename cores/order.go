package cores

// marks is a set of cores: core i is in it if bit i is 1.
type marks uint64

// bitOf returns the bit of a core, which is not negative.
func bitOf(core int) marks { return 1 << uint64(core) }

// Order returns the cores from 0 to n - 1: first those in l, in the order of their first occurrences, and then the others in ascending order. It is empty if n is not from 1 to MaxCores.
func Order(n int, l []int) []int {
	if !isCount(n) {
		return nil
	}
	order := make([]int, 0, n)
	var seen marks
	for _, core := range l {
		// Numbers that are no cores go first, as they have no bit.
		if core < 0 || core >= n || seen&bitOf(core) != 0 {
			continue
		}
		seen |= bitOf(core)
		order = append(order, core)
	}
	for core := range n {
		if seen&bitOf(core) == 0 {
			order = append(order, core)
		}
	}
	return order
}
