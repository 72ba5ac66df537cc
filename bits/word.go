package bits

const (
	wordSize = 64 // bits of a word
	words    = 4  // words of a set
	levels   = words * wordSize
)

// isLevel tells whether i is a level. The numbers of words and bits are made of levels only.
func isLevel(i int) bool { return i >= 0 && i < levels }

// wordOf returns the number of the word in which level i is.
func wordOf(i int) int { return int(uint64(i) / wordSize) }

// bitOf returns the bit of level i in its word.
func bitOf(i int) uint64 { return 1 << (uint64(i) % wordSize) }

// above returns the levels of s that are greater than i.
func (s Set) above(i int) Set {
	if i < 0 {
		return s
	}
	// This asks i and not i + 1, as that would wrap round for the greatest number.
	if i >= levels-1 {
		return Set{}
	}
	least := i + 1
	for k := range wordOf(least) {
		s.W[k] = 0
	}
	// A bit less one is all the bits below it.
	s.W[wordOf(least)] &^= bitOf(least) - 1
	return s
}

// lowest returns the number of the lowest bit of w that is 1, by halving where it may be. w is not 0.
func lowest(w uint64) int {
	n := uint64(0)
	for half := uint64(wordSize / 2); half > 0; half >>= 1 {
		if w<<(wordSize-half) == 0 {
			w >>= half
			n += half
		}
	}
	return int(n)
}

// ones returns how many bits of w are 1.
func ones(w uint64) int {
	n := 0
	// w & (w - 1) is w without its lowest bit that is 1.
	for ; w != 0; w &= w - 1 {
		n++
	}
	return n
}
