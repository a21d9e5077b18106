package calls

import (
	"iter"
	"math/bits"
	"slices"
)

const wordBits = 64

// set is a set of numbers, as bits. Those of the first level are the numbers; a bit of any other level says that this word of the level below has some: so the least number is found without going through all words.
type set struct {
	levels [][]uint64
}

// newSet answers an empty set, for numbers from 0 on, below that one.
func newSet(below int) *set {
	s := &set{}
	words := below
	for len(s.levels) == 0 || words > 1 {
		words = (words + wordBits - 1) / wordBits
		s.levels = append(s.levels, make([]uint64, words))
	}
	return s
}

// add puts a number in, and tells whether it was not in yet.
func (s *set) add(n int) bool {
	if s.levels[0][n/wordBits]&bitOf(n) != 0 {
		return false
	}
	for _, level := range s.levels {
		level[n/wordBits] |= bitOf(n)
		n /= wordBits
	}
	return true
}

// remove takes out a number that is in.
func (s *set) remove(n int) {
	for _, level := range s.levels {
		level[n/wordBits] &^= bitOf(n)
		if level[n/wordBits] != 0 {
			return
		}
		n /= wordBits
	}
}

// least answers the least number; false, if there is none.
func (s *set) least() (int, bool) {
	top := s.levels[len(s.levels)-1]
	if len(top) == 0 || top[0] == 0 {
		return 0, false
	}
	n := 0
	for _, level := range slices.Backward(s.levels) {
		n = n*wordBits + bits.TrailingZeros64(level[n])
	}
	return n, true
}

// taken takes out the least number, and tells it, until the set is empty; also numbers that are put in meanwhile.
func (s *set) taken() iter.Seq[int] {
	return func(yield func(int) bool) {
		for {
			n, is := s.least()
			if !is {
				return
			}
			s.remove(n)
			if !yield(n) {
				return
			}
		}
	}
}

// bitOf answers the bit of a number in its word.
func bitOf(n int) uint64 {
	return 1 << (n % wordBits)
}
