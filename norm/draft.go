package norm

import (
	"cmp"
	"maps"
	"slices"

	"chandlery/api"
)

// draft is what a call adds to a table. It is put there only when it is complete, so that a call that returns an error makes nothing.
type draft struct {
	table   *Table
	but     set // what is left out
	helpers int
	clauses [][]int
	sets    map[set]int
}

// draft is one without anything, for a call that leaves out a package; where there is no such one it leaves out nothing.
func (t *Table) draft(but int) *draft {
	d := &draft{table: t, sets: map[set]int{}}
	if t.has(but) {
		d.but = setOf(but)
	}
	return d
}

// taken puts the draft into its table, and answers the literal that it was made for.
func (d *draft) taken(lit int) (int, api.Errno) {
	t := d.table
	if t.helpers+d.helpers > MaxHelpers {
		return 0, api.ErrTooLarge
	}
	t.helpers += d.helpers
	t.clauses = append(t.clauses, d.clauses...)
	if t.sets == nil {
		t.sets = map[set]int{}
	}
	maps.Copy(t.sets, d.sets)
	return lit, api.OK
}

// helper is the literal of a new helper.
func (d *draft) helper() int {
	d.helpers++
	return d.table.Vars() + d.helpers
}

// define puts the clauses by which a literal is true exactly if one of some others is.
func (d *draft) define(lit int, others []int) {
	for _, other := range others {
		d.clauses = append(d.clauses, []int{-other, lit})
	}
	d.clauses = append(d.clauses, slices.Concat([]int{-lit}, others))
}

// anyOf is a helper that is true exactly if one of some literals is.
func (d *draft) anyOf(l ...int) int {
	h := d.helper()
	d.define(h, l)
	return h
}

// allOf is a helper that is true exactly if all of some literals are: it is false exactly if the negation of one of them is true.
func (d *draft) allOf(l ...int) int {
	h := d.helper()
	var negated []int
	for _, lit := range l {
		negated = append(negated, -lit)
	}
	d.define(-h, negated)
	return h
}

// choice is a helper that is what one literal is where a condition is true, and what another one is where it is false.
func (d *draft) choice(condition, where, otherwise int) int {
	h := d.helper()
	d.clauses = append(d.clauses,
		[]int{-condition, -where, h},
		[]int{-condition, where, -h},
		[]int{condition, -otherwise, h},
		[]int{condition, otherwise, -h},
	)
	return h
}

// one is the literal of a set of packages, without what is left out: one of them is in the state. A set has one helper, whoever asks for it, and a single package none.
func (d *draft) one(s set) int {
	s = s.minus(d.but)
	l := s.literals()
	if len(l) == 1 {
		return l[0]
	}
	if lit := cmp.Or(d.table.sets[s], d.sets[s]); lit != 0 { // 0 is no literal
		return lit
	}
	h := d.anyOf(l...)
	d.sets[s] = h
	return h
}
