package norm_test

import (
	"slices"
	"strconv"
	"testing"

	"chandlery/api"
	"chandlery/norm"
)

// sum is a number that hangs on all clauses, and on their order.
func sum(clauses [][]int) uint64 {
	h := uint64(len(clauses))
	for _, clause := range clauses {
		h = h*1099511628211 + uint64(len(clause))
		for _, lit := range clause {
			h = h*1099511628211 + uint64(lit)
		}
	}
	return h
}

// crammed is a table of as many packages as there may be, which is filled with helpers, each of them that of a set of three of its packages.
type crammed struct {
	t    *testing.T
	x    *norm.Table
	next [3]int // the set that comes next
}

// unused is the number of the first package that is in none of the sets.
const unused = 200

// crammedOf is one without helpers. The packages from unused on provide x, y and z, several of them each.
func crammedOf(t *testing.T) *crammed {
	t.Helper()
	var l []api.Package
	for n := range api.MaxPackages {
		p := at("p"+strconv.Itoa(n), "1")
		if n >= unused {
			p.Provides = []api.Dep{named([]string{"x", "y", "z"}[n%3])}
		}
		l = append(l, p)
	}
	x, _ := made(t, half(l...))
	return &crammed{t, x, [3]int{0, 1, 2}}
}

// helpers is how many there are.
func (c *crammed) helpers() int { return c.x.Vars() - api.MaxPackages }

// set is one that has no helper, another one each time.
func (c *crammed) set() []int {
	l := slices.Clone(c.next[:])
	switch n := &c.next; {
	case n[2] < unused-1:
		n[2]++
	case n[1] < unused-2:
		n[1]++
		n[2] = n[1] + 1
	default:
		n[0]++
		n[1], n[2] = n[0]+1, n[0]+2
	}
	return l
}

// fill asks for sets until there are so many helpers.
func (c *crammed) fill(helpers int) {
	c.t.Helper()
	for c.helpers() < helpers {
		vars, l := c.x.Vars(), c.set()
		lit, e := c.x.Any(l, -1)
		if e != api.OK || variable(lit) != vars || c.x.Vars() != vars+1 {
			c.t.Fatalf("%v: %d, %d, %d variables, before it %d", l, lit, e, c.x.Vars(), vars)
		}
	}
}

// wantRefused asks for calls that return an error and make nothing.
func (c *crammed) wantRefused(want api.Errno, calls ...do) {
	c.t.Helper()
	vars, before := c.x.Vars(), sum(c.x.Clauses())
	for _, one := range calls {
		if lit, e := one.on(c.x); lit != 0 || e != want {
			c.t.Errorf("%.60v: %d, %d, want the error %d", one, lit, e, want)
		}
		if c.x.Vars() != vars {
			c.t.Fatalf("%.60v: %d variables, before it %d", one, c.x.Vars(), vars)
		}
	}
	if sum(c.x.Clauses()) != before {
		c.t.Errorf("%.60v: other clauses than before", calls)
	}
}

// wantTold asks for the literal of a call that makes no helper, and no clause.
func (c *crammed) wantTold(want int, calls ...do) {
	c.t.Helper()
	vars, before := c.x.Vars(), sum(c.x.Clauses())
	for _, one := range calls {
		if lit, e := one.on(c.x); lit != want || e != api.OK {
			c.t.Errorf("%.60v: %d, %d, want %d", one, lit, e, want)
		}
	}
	if c.x.Vars() != vars || sum(c.x.Clauses()) != before {
		c.t.Errorf("%.60v: %d variables, before it %d", calls, c.x.Vars(), vars)
	}
}

// listed is a call of Any.
func listed(but int, l ...int) do { return do{any: true, l: l, but: but} }

// ofText is a call of Lit.
func ofText(but int, s string) do { return do{r: read(s), but: but} }

// P17.1: there are at most MaxHelpers helpers; a call that would make more makes none, and leaves nothing behind.
func TestTooLarge(t *testing.T) {
	if norm.MaxHelpers != 1048576 {
		t.Fatalf("%d helpers", norm.MaxHelpers)
	}
	c := crammedOf(t)
	first, e := c.x.Any(c.set(), -1)
	if e != api.OK || variable(first) != api.MaxPackages {
		t.Fatalf("any of 0, 1 and 2: %d, %d", first, e)
	}
	c.fill(norm.MaxHelpers - 3)
	// What needs more than there may be is refused as a whole, or fits, with fewer helpers than parts.
	for _, s := range []string{"((x or y) if (y or z))", "(x if y else z)", "((x and y) unless (z and x) else (y and z))"} {
		vars := c.x.Vars()
		lit, e := c.x.Lit(read(s), -1)
		if (e != api.OK || lit == 0 || c.helpers() > norm.MaxHelpers) && (e != api.ErrTooLarge || lit != 0 || c.x.Vars() != vars) {
			t.Fatalf("%s: %d, %d, %d variables, before it %d", s, lit, e, c.x.Vars(), vars)
		}
	}
	c.fill(norm.MaxHelpers - 1)
	// An Atom that is a part of what was refused gets a helper, and that is told by clauses.
	last, e := c.x.Lit(read("y"), -1)
	if e != api.OK || last == 0 || c.helpers() != norm.MaxHelpers {
		t.Fatalf("y: %d, %d, %d helpers", last, e, c.helpers())
	}
	c.wantRefused(api.ErrTooLarge, listed(-1, 0, unused), listed(unused, 0, unused, 1, unused+1), listed(-1), listed(0, 0), listed(-1, 0, unused),
		ofText(-1, "x"), ofText(unused, "z"), ofText(-1, "other"), ofText(-1, "(x or y)"), ofText(-1, "(p0 and p1)"), ofText(3, "(p0 if p1 else p2)"), ofText(-1, "(x without y)"))
	c.wantRefused(api.ErrArg, listed(-1, -1), listed(0, 0, 256), listed(-1, 0, unused, 1<<40))
	c.wantRefused(api.ErrForm, do{r: of(api.And, read("x")), but: -1}, do{})
	c.wantTold(8, listed(-1, 7), listed(3, 3, 7), listed(-1, 7, 7), ofText(-1, "p7"), ofText(6, "p7"))
	c.wantTold(first, listed(-1, 2, 1, 0), listed(77, 0, 1, 2, 77))
	clauses := c.x.Clauses()
	for _, state := range [][]int{{}, {2}, {unused}, {unused + 1}, numbers(0, 256), without(numbers(0, 256), 1)} {
		v := settle(t, api.MaxPackages, c.x.Vars(), clauses, state)
		yes := slices.ContainsFunc(state, func(n int) bool { return n >= unused && n%3 == 1 })
		if v.of(last) > 0 != yes {
			t.Errorf("%.60v: y: want %v", state, yes)
		}
		yes = slices.ContainsFunc(state, func(n int) bool { return n < 3 })
		if v.of(first) > 0 != yes {
			t.Errorf("%.60v: any of 0, 1 and 2: want %v", state, yes)
		}
	}
}

// P17.1: a call that is refused leaves no trace on those that follow.
func TestAfterTooLarge(t *testing.T) {
	c, calm := crammedOf(t), crammedOf(t)
	const few = 2 // helpers that are left
	c.fill(norm.MaxHelpers - few)
	calm.fill(norm.MaxHelpers - few)
	for _, one := range []do{ofText(-1, "((x with x) and (y with y) and z)"), ofText(unused, "(x if y else z)"), ofText(-1, "((x or y) if (y or z))")} {
		vars := c.x.Vars()
		if lit, e := one.on(c.x); e == api.OK {
			t.Skipf("%v: %d fits", one, lit)
		} else if e != api.ErrTooLarge || lit != 0 || c.x.Vars() != vars {
			t.Fatalf("%v: %d, %d, %d variables, before it %d", one, lit, e, c.x.Vars(), vars)
		}
	}
	for _, one := range []do{ofText(-1, "x"), ofText(unused, "y"), ofText(-1, "z"), ofText(-1, "y"), listed(-1, c.set()...), ofText(unused, "y"), ofText(-1, "x")} {
		lit, e := one.on(c.x)
		want, f := one.on(calm.x)
		if lit != want || e != f || c.x.Vars() != calm.x.Vars() {
			t.Errorf("%v: %d, %d, %d variables, want %d, %d, %d", one, lit, e, c.x.Vars(), want, f, calm.x.Vars())
		}
	}
	if sum(c.x.Clauses()) != sum(calm.x.Clauses()) || c.helpers() != norm.MaxHelpers {
		t.Errorf("%d helpers, and other clauses", c.helpers())
	}
}
