package norm

import (
	"math/bits"

	"chandlery/api"
)

// wordBits is how many packages a word of a set stands for.
const wordBits = 64

// set is a set of packages, by their numbers, of which there are at most api.MaxPackages.
type set [api.MaxPackages / wordBits]uint64

// setOf is the set of some numbers of packages.
func setOf(numbers ...int) set {
	var s set
	for _, n := range numbers {
		s[n/wordBits] |= 1 << (n % wordBits)
	}
	return s
}

// plus is the set of what is in either.
func (s set) plus(more set) set {
	for i := range s {
		s[i] |= more[i]
	}
	return s
}

// minus is the set without what is in the other one.
func (s set) minus(less set) set {
	for i := range s {
		s[i] &^= less[i]
	}
	return s
}

// both is the set of what is in both.
func (s set) both(other set) set { return s.minus(s.minus(other)) }

// literals are those of its packages, in increasing order.
func (s set) literals() []int {
	var l []int
	for i, word := range s {
		for ; word != 0; word &= word - 1 {
			l = append(l, i*wordBits+bits.TrailingZeros64(word)+1)
		}
	}
	return l
}
