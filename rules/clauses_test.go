package rules_test

import (
	"slices"
	"testing"

	"chandlery/api"
	"chandlery/rules"
)

// sameLists says whether both are the same lists, in the same order.
func sameLists(a, b [][]int) bool { return slices.EqualFunc(a, b, slices.Equal[[]int]) }

// copied are the same lists in other memory.
func copied(l [][]int) [][]int {
	var c [][]int
	for _, one := range l {
		c = append(c, slices.Clone(one))
	}
	return c
}

// wantLists asks for just these lists.
func wantLists(t *testing.T, what string, got [][]int, want ...[]int) {
	t.Helper()
	if !sameLists(got, want) {
		t.Errorf("%s: %v, want %v", what, got, want)
	}
}

// clausesOf are the clauses of an item that exists.
func clausesOf(t *testing.T, r *rules.Rules, x api.Item) [][]int {
	t.Helper()
	i := slices.Index(r.Items(), x)
	if i < 0 {
		t.Fatalf("there is no %v among %v", x, r.Items())
	}
	return r.Clauses(i)
}

// wantOf asks for just these clauses of an item.
func wantOf(t *testing.T, r *rules.Rules, x api.Item, want ...[]int) {
	t.Helper()
	if got := clausesOf(t, r, x); !sameLists(got, want) {
		t.Errorf("%v: %v, want %v", x, got, want)
	}
}

// wantOwn asks for one clause of an item, of just two literals; it is the second one, and the first one is that the item's package is not there.
func wantOwn(t *testing.T, r *rules.Rules, x api.Item) int {
	t.Helper()
	l := clausesOf(t, r, x)
	if len(l) != 1 || len(l[0]) != 2 || l[0][0] != -1-x.P || l[0][1] == 0 || variable(l[0][1]) >= r.Vars() {
		t.Fatalf("%v: %v, of %d variables", x, l, r.Vars())
	}
	return l[0][1]
}

// variable is that of a literal.
func variable(lit int) int { return max(lit, -lit) - 1 }

// values say of each variable whether it is true, 1, or false, -1; 0: that is not known.
type values []int

// of is the value of a literal.
func (v values) of(lit int) int {
	if lit < 0 {
		return -v[variable(lit)]
	}
	return v[variable(lit)]
}

// bools are the values as they are handed in.
func (v values) bools() []bool {
	l := make([]bool, len(v))
	for i, value := range v {
		l[i] = value > 0
	}
	return l
}

// fulfil says whether each clause has a true literal.
func (v values) fulfil(clauses [][]int) bool {
	return !slices.ContainsFunc(clauses, func(clause []int) bool {
		return !slices.ContainsFunc(clause, func(lit int) bool { return v.of(lit) > 0 })
	})
}

// valuesOf are those by which the packages of a state are there, and nothing is known of the other variables.
func valuesOf(count, vars int, state []int) values {
	v := make(values, vars)
	for n := range count {
		v[n] = -1
	}
	for _, n := range state {
		v[n] = 1
	}
	return v
}

// open is the literal of a clause that is the only one that is not known, where all others are false; 0: there is no such one.
func (v values) open(clause []int) int {
	open := 0
	for _, lit := range clause {
		switch value := v.of(lit); {
		case value > 0, value == 0 && open != 0:
			return 0
		case value == 0:
			open = lit
		}
	}
	return open
}

// settle finds the helpers' values of a state from the base, step by step, so that there are no other ones; it asks for all of them, and that each clause of the base has a true literal.
func settle(t *testing.T, count, vars int, base [][]int, state []int) values {
	t.Helper()
	v := valuesOf(count, vars, state)
	for found := true; found; {
		found = false
		for _, clause := range base {
			switch lit := v.open(clause); {
			case lit > 0:
				v[lit-1], found = 1, true
			case lit < 0:
				v[-lit-1], found = -1, true
			}
		}
	}
	if slices.Contains(v, 0) {
		t.Fatalf("%v: not all values were found: %v of %v", state, v, base)
	}
	if !v.fulfil(base) {
		t.Fatalf("%v: the base %v of %v", state, base, v)
	}
	return v
}

// every calls f with all values of so many variables.
func every(vars int, f func(v values)) {
	for bits := range 1 << vars {
		v := make(values, vars)
		for i := range v {
			v[i] = bits>>i&1*2 - 1
		}
		f(v)
	}
}

// answers are all that a rule book tells, without the values of which a State is asked.
type answers struct {
	items   []api.Item
	clauses [][][]int
	base    [][]int
	all     [][]int
	vars    int
}

// answersOf is what it tells now.
func answersOf(r *rules.Rules) answers {
	one := answers{items: r.Items(), base: r.Base(), all: r.All(), vars: r.Vars()}
	for i := range one.items {
		one.clauses = append(one.clauses, r.Clauses(i))
	}
	return one
}

// copy is the same in other memory.
func (one answers) copy() answers {
	c := answers{slices.Clone(one.items), nil, copied(one.base), copied(one.all), one.vars}
	for _, l := range one.clauses {
		c.clauses = append(c.clauses, copied(l))
	}
	return c
}

// wantSame asks for the same as before.
func wantSame(t *testing.T, what string, got, want answers) {
	t.Helper()
	wantItems(t, what, got.items, want.items...)
	wantLists(t, what+": base", got.base, want.base...)
	wantLists(t, what+": all", got.all, want.all...)
	if got.vars != want.vars || !slices.EqualFunc(got.clauses, want.clauses, sameLists) {
		t.Errorf("%s: %d variables, %v, want %d, %v", what, got.vars, got.clauses, want.vars, want.clauses)
	}
}

// wantGrown asks for what there was before, with some more variables, and some more clauses behind those of the base.
func wantGrown(t *testing.T, what string, got, want answers) {
	t.Helper()
	n := len(want.base)
	if got.vars < want.vars || len(got.base) < n || len(got.all) != len(want.all)+len(got.base)-n {
		t.Fatalf("%s: %d variables, %v, before it %d, %v", what, got.vars, got.base, want.vars, want.base)
	}
	more := len(got.base) - n
	grown := got
	grown.base, grown.vars = got.base[:n], want.vars
	grown.all = slices.Concat(got.all[:n], got.all[n+more:])
	wantSame(t, what, grown, want)
	wantLists(t, what+": all", got.all[:n+more], got.base...)
}
