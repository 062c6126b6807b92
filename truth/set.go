package truth

import (
	"iter"
	"math/bits"

	"chandlery/api"
)

// wordBits is how many numbers a word of a set stands for.
const wordBits = 64

// set is a set of numbers of packages, of which there are at most api.MaxPackages.
type set [api.MaxPackages / wordBits]uint64

// only is the set of a single number.
func only(n int) set {
	var s set
	s[n/wordBits] = 1 << (n % wordBits)
	return s
}

// plus is the set of what is in either.
func (s set) plus(more set) set {
	for i := range s {
		s[i] |= more[i]
	}
	return s
}

// minus is the set without what is in the other one.
func (s set) minus(less set) set {
	for i := range s {
		s[i] &^= less[i]
	}
	return s
}

// meets says whether a number is in both.
func (s set) meets(other set) bool { return s.minus(other) != s }

// numbers are those of the set, in increasing order.
func (s set) numbers() iter.Seq[int] {
	return func(yield func(int) bool) {
		for i, word := range s {
			for ; word != 0; word &= word - 1 {
				if !yield(i*wordBits + bits.TrailingZeros64(word)) {
					return
				}
			}
		}
	}
}

// someAlone says whether a condition holds for one of the numbers alone.
func (s set) someAlone(condition func(set) bool) bool {
	for n := range s.numbers() {
		if condition(only(n)) {
			return true
		}
	}
	return false
}
