package rules

import "slices"

// there is the literal by which a package is in the state.
func there(n int) int { return n + 1 }

// away is the literal by which it is not.
func away(n int) int { return -there(n) }

// oneOf asks for one of some packages; where there are none, nothing can do that.
func oneOf(packages ...int) [][]int {
	var clause []int
	for _, n := range packages {
		clause = append(clause, there(n))
	}
	return [][]int{clause}
}

// noneOf asks for none of some packages, wherever another literal is false.
func noneOf(packages []int, unless ...int) [][]int {
	var l [][]int
	for _, n := range packages {
		l = append(l, append(slices.Clone(unless), away(n)))
	}
	return l
}

// collected are the clauses of several lists, one list after another, in memory of their own.
func collected(lists ...[][]int) [][]int {
	var l [][]int
	for _, list := range lists {
		for _, clause := range list {
			l = append(l, slices.Clone(clause))
		}
	}
	return l
}
