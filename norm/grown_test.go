package norm_test

import (
	"fmt"
	"slices"
	"strings"
	"testing"

	"chandlery/api"
	"chandlery/norm"
	"chandlery/pkg"
	"chandlery/pool"
	"chandlery/rich"
	"chandlery/shape"
)

// longest is a name of the greatest length.
var longest = strings.Repeat("x", api.MaxName)

// named is a dependency of any version.
func named(name string) api.Dep { return api.Dep{Name: name} }

// ranged is a dependency of a range of versions, of whatever release.
func ranged(name string, op uint8, ver string) api.Dep {
	return api.Dep{Name: name, Op: op, EVR: api.EVR{Ver: ver}}
}

// atom is an Atom of any version.
func atom(name string) api.Rich { return api.Rich{Kind: api.Atom, Dep: named(name)} }

// of is a part with these Args.
func of(kind uint8, args ...api.Rich) api.Rich { return api.Rich{Kind: kind, Args: args} }

// at is a valid package of that name and version, with the release 1, that has nothing that it need not have.
func at(name, ver string) api.Package {
	return api.Package{Name: name, EVR: api.EVR{Ver: ver, Rel: "1"}, Arch: api.NoArch}
}

// providing is a package that provides these, too.
func providing(p api.Package, l ...api.Dep) api.Package {
	p.Provides = l
	return p
}

// having is a package of that name that provides these, too, in any version.
func having(name string, names ...string) api.Package {
	p := at(name, "1")
	for _, other := range names {
		p.Provides = append(p.Provides, named(other))
	}
	return p
}

// filed is a package that has these files.
func filed(p api.Package, l ...string) api.Package {
	p.Files = l
	return p
}

// read is the rich dependency of a text.
func read(s string) api.Rich {
	r, _, e := rich.Parse(s)
	if e != api.OK {
		panic(s)
	}
	return r
}

// text tells a rich dependency.
func text(r api.Rich) string {
	if s, e := rich.Show(r); e == api.OK {
		return s
	}
	return "(not well-formed)"
}

// repo is a repository.
func repo(packages ...api.Package) api.Repo { return api.Repo{Packages: packages} }

// input is what a pool is made of.
type input struct {
	repos     []api.Repo
	installed []api.Package
}

// all are the packages of the pool of an input, by their numbers.
func (in input) all() []api.Package {
	l := slices.Clone(in.installed)
	for _, r := range in.repos {
		l = append(l, r.Packages...)
	}
	return l
}

// half is an input of these packages, some of which are installed.
func half(l ...api.Package) input {
	return input{[]api.Repo{repo(l[len(l)/2:]...)}, l[:len(l)/2]}
}

// spread puts packages over installed ones and repositories, in several ways, so that each has the same number in each of them.
func spread(l ...api.Package) []input {
	return []input{half(l...), {installed: l}, {repos: []api.Repo{{}, {Priority: 7, Packages: l}, {}}}}
}

// made is a table of the pool of an input, and that pool.
func made(t *testing.T, in input) (*norm.Table, *pool.Pool) {
	t.Helper()
	p, e := pool.New(in.repos, in.installed)
	if e != api.OK {
		t.Fatalf("pool.New(%v): %d", in, e)
	}
	x, e := norm.New(p)
	if x == nil || e != api.OK {
		t.Fatalf("New: %v, %d", x, e)
	}
	if x.Vars() != len(in.all()) || len(x.Clauses()) != 0 {
		t.Fatalf("New: %d variables, %v", x.Vars(), x.Clauses())
	}
	return x, p
}

// absent are numbers that no package of a pool has.
func absent(count int) []int {
	return []int{-1, -2, -63, -64, -65, -256, -1 << 63, count, count + 1, count + 64, 255 + count, 256 + count, 1 << 32, 1<<63 - 1}
}

// states are all lists of numbers below count, each in increasing order.
func states(count int) [][]int {
	l := [][]int{nil}
	for n := range count {
		for _, state := range l {
			l = append(l, append(slices.Clone(state), n))
		}
	}
	return l
}

// numbers are those from a number up to another one, which is not one of them.
func numbers(from, to int) []int {
	var l []int
	for n := from; n < to; n++ {
		l = append(l, n)
	}
	return l
}

// digits are the numbers of a text, each a digit; a point is no number.
func digits(s string) []int {
	var l []int
	for _, one := range strings.Trim(s, ".") {
		l = append(l, int(one-'0'))
	}
	return l
}

// without is a list without a number.
func without(l []int, n int) []int {
	return slices.DeleteFunc(slices.Clone(l), func(m int) bool { return m == n })
}

// copied are the same lists in other memory.
func copied(l [][]int) [][]int {
	var c [][]int
	for _, one := range l {
		c = append(c, slices.Clone(one))
	}
	return c
}

// sameLists says whether both are the same lists, in the same order.
func sameLists(a, b [][]int) bool { return slices.EqualFunc(a, b, slices.Equal[[]int]) }

// variable is that of a literal.
func variable(lit int) int { return max(lit, -lit) - 1 }

// values say of each variable whether it is true, 1, or false, -1; 0: that is not known.
type values []int

// of is the value of a literal.
func (v values) of(lit int) int {
	if lit < 0 {
		return -v[variable(lit)]
	}
	return v[variable(lit)]
}

// valuesOf are those by which the packages of a state are there, and nothing is known of the other variables.
func valuesOf(count, vars int, state []int) values {
	v := make(values, vars)
	for n := range count {
		v[n] = -1
	}
	for _, n := range state {
		v[n] = 1
	}
	return v
}

// open is the literal of a clause that is the only one that is not known, where all others are false; 0: there is no such one.
func (v values) open(clause []int) int {
	open := 0
	for _, lit := range clause {
		switch value := v.of(lit); {
		case value > 0, value == 0 && open != 0:
			return 0
		case value == 0:
			open = lit
		}
	}
	return open
}

// wrong is a clause none of whose literals is true; false: there is no such one.
func (v values) wrong(clauses [][]int) ([]int, bool) {
	for _, clause := range clauses {
		if !slices.ContainsFunc(clause, func(lit int) bool { return v.of(lit) > 0 }) {
			return clause, true
		}
	}
	return nil, false
}

// settle finds the helpers' values of a state step by step, as the Terms say, and asks for all of them, and that each clause has a true literal.
func settle(t *testing.T, count, vars int, clauses [][]int, state []int) values {
	t.Helper()
	v := valuesOf(count, vars, state)
	for found := true; found; {
		found = false
		for _, clause := range clauses {
			switch lit := v.open(clause); {
			case lit > 0:
				v[lit-1], found = 1, true
			case lit < 0:
				v[-lit-1], found = -1, true
			}
		}
	}
	if slices.Contains(v, 0) {
		t.Fatalf("%v: not all values were found: %v of %v", state, v, clauses)
	}
	if clause, ok := v.wrong(clauses); ok {
		t.Fatalf("%v: %v has no true literal: %v", state, clause, v)
	}
	return v
}

// ways is how many ways there are to choose the values of the helpers so that each clause has a true literal.
func ways(count, vars int, clauses [][]int, state []int) int {
	n := 0
	for bits := range 1 << (vars - count) {
		v := valuesOf(count, vars, state)
		for i := range vars - count {
			v[count+i] = 1 - bits>>i&1*2
		}
		if _, wrong := v.wrong(clauses); !wrong {
			n++
		}
	}
	return n
}

// crowd is a state: the packages that it has, by number.
type crowd map[int]api.Package

// crowdOf is that of a list.
func crowdOf(all []api.Package, state []int) crowd {
	in := crowd{}
	for _, n := range state {
		in[n] = all[n]
	}
	return in
}

// how many of the Args a state satisfies.
func (in crowd) how(args []api.Rich) int {
	n := 0
	for _, arg := range args {
		if in.satisfies(arg) {
			n++
		}
	}
	return n
}

// some says whether one of the packages alone satisfies the first Arg, and of the others so many.
func (in crowd) some(args []api.Rich, others int) bool {
	yes := false
	for n, p := range in {
		alone := crowd{n: p}
		yes = yes || alone.satisfies(args[0]) && alone.how(args[1:]) == others
	}
	return yes
}

// satisfies says whether a state satisfies what is well-formed, by the words of S3.
func (in crowd) satisfies(r api.Rich) bool {
	three := len(r.Args) == 3
	yes := func(i int) bool { return in.satisfies(r.Args[i]) }
	switch r.Kind {
	case api.Atom:
		for _, p := range in {
			if pkg.Provides(p, r.Dep) {
				return true
			}
		}
		return false
	case api.And:
		return in.how(r.Args) == len(r.Args)
	case api.Or:
		return in.how(r.Args) > 0
	case api.If:
		return three && (yes(1) && yes(0) || !yes(1) && yes(2)) || !three && (yes(0) || !yes(1))
	case api.Unless:
		return three && (yes(1) && yes(2) || !yes(1) && yes(0)) || !three && yes(0) && !yes(1)
	case api.With:
		return in.some(r.Args, len(r.Args)-1)
	}
	return in.some(r.Args, 0)
}

// claim is what a literal stands for: whether it is true in a state.
type claim struct {
	what  string
	lit   int
	holds func(state []int) bool
}

// book is a table, and what it was asked for, and answered, up to now.
type book struct {
	t       *testing.T
	x       *norm.Table
	all     []api.Package
	claims  []claim
	vars    int
	clauses [][]int
}

// bookOf is that of a new table.
func bookOf(t *testing.T, in input) *book {
	t.Helper()
	x, _ := made(t, in)
	return &book{t: t, x: x, all: in.all(), vars: x.Vars()}
}

// grew asks for a table in which all that was there stays, and that has at most so many helpers more.
func (b *book) grew(what string, most int) {
	b.t.Helper()
	vars, clauses := b.x.Vars(), b.x.Clauses()
	if vars < b.vars || vars > b.vars+most {
		b.t.Fatalf("%s: %d variables, before it %d", what, vars, b.vars)
	}
	if len(clauses) < len(b.clauses) || !sameLists(clauses[:len(b.clauses)], b.clauses) {
		b.t.Fatalf("%s: clauses %v, before it %v", what, clauses, b.clauses)
	}
	for _, clause := range clauses[len(b.clauses):] {
		helpers := 0
		for _, lit := range clause {
			if lit == 0 || variable(lit) >= vars {
				b.t.Fatalf("%s: clause %v, of %d variables", what, clause, vars)
			}
			if variable(lit) >= len(b.all) {
				helpers++
			}
		}
		if helpers == 0 {
			b.t.Fatalf("%s: clause %v has no helper", what, clause)
		}
	}
	b.vars, b.clauses = vars, clauses
}

// asked puts what a call answered into the book.
func (b *book) asked(what string, most, lit int, e api.Errno, holds func(state []int) bool) int {
	b.t.Helper()
	b.grew(what, most)
	if e != api.OK || lit == 0 || variable(lit) >= b.vars {
		b.t.Fatalf("%s: %d, %d, of %d variables", what, lit, e, b.vars)
	}
	b.claims = append(b.claims, claim{what, lit, holds})
	return lit
}

// lit asks for a rich dependency's literal.
func (b *book) lit(r api.Rich, but int) int {
	b.t.Helper()
	what := fmt.Sprintf("%s without %d", text(r), but)
	own := shape.Copy(r)
	lit, e := b.x.Lit(r, but)
	return b.asked(what, shape.Count(r), lit, e, func(state []int) bool { return crowdOf(b.all, without(state, but)).satisfies(own) })
}

// any asks for the literal of some packages.
func (b *book) any(l []int, but int) int {
	b.t.Helper()
	own := without(l, but)
	lit, e := b.x.Any(l, but)
	return b.asked(fmt.Sprintf("any of %v without %d", l, but), 1, lit, e, func(state []int) bool {
		return slices.ContainsFunc(state, func(n int) bool { return slices.Contains(own, n) })
	})
}

// refused asks for a call that returned that error, and made nothing.
func (b *book) refused(what string, lit int, e, want api.Errno) {
	b.t.Helper()
	if lit != 0 || e != want {
		b.t.Errorf("%s: %d, %d, want the error %d", what, lit, e, want)
	}
	vars, clauses := b.vars, len(b.clauses)
	if b.grew(what, 0); b.vars != vars || len(b.clauses) != clauses {
		b.t.Errorf("%s: %d variables and %d clauses, before it %d and %d", what, b.vars, len(b.clauses), vars, clauses)
	}
}

// check holds all that was asked for against some states.
func (b *book) check(states [][]int) (yes, no int) {
	b.t.Helper()
	for _, state := range states {
		v := settle(b.t, len(b.all), b.vars, b.clauses, state)
		for _, one := range b.claims {
			is := v.of(one.lit) > 0
			if is != one.holds(state) {
				b.t.Errorf("%v: %s: the literal %d is %v; %v", state, one.what, one.lit, is, b.clauses)
			}
			if is {
				yes++
			} else {
				no++
			}
		}
	}
	return yes, no
}

// dice are numbers that follow one another by a rule, the same each time.
type dice uint64

// roll is a number from 0 to n-1.
func (d *dice) roll(n int) int {
	*d = *d*6364136223846793005 + 1442695040888963407
	return int(uint64(*d)>>33) % n
}

// pick is one of several.
func pick[T any](d *dice, l ...T) T { return l[d.roll(len(l))] }

// listOf is a list of up to so many elements; more often it is neither short nor long.
func listOf[T any](d *dice, most int, one func() T) []T {
	var l []T
	for range (d.roll(most+1) + d.roll(most+1)) / 2 {
		l = append(l, one())
	}
	return l
}

// name is a name of few.
func (d *dice) name() string { return pick(d, "a", "b", "c", "d", "ab", longest) }

// dep is a valid dependency.
func (d *dice) dep() api.Dep {
	op := pick(d, api.Any, api.Any, api.Less, api.Equal, api.Greater, api.Less|api.Equal, api.Greater|api.Equal)
	switch {
	case d.roll(10) == 0:
		return named(pick(d, "/a", "/b"))
	case op == api.Any:
		return named(d.name())
	}
	return api.Dep{Name: d.name(), Op: op, EVR: api.EVR{Ver: pick(d, "1", "2", "3"), Rel: pick(d, "", "1")}}
}

// pkg is a valid package.
func (d *dice) pkg() api.Package {
	p := at(d.name(), pick(d, "1", "2", "3"))
	p.Provides = listOf(d, 5, d.dep)
	p.Obsoletes = listOf(d, 2, d.dep)
	p.Requires = listOf(d, 2, d.rich)
	p.Files = pick(d, nil, nil, []string{"/a"}, []string{"/b"}, []string{"/a", "/b"})
	return p
}

// input is a valid one, of up to so many packages.
func (d *dice) input(most int) input {
	l := listOf(d, most, d.pkg)
	first, second := d.roll(len(l)+1), d.roll(len(l)+1)
	first, second = min(first, second), max(first, second)
	return input{[]api.Repo{repo(l[first:second]...), {}, repo(l[second:]...)}, l[:first]}
}

// grow is a rich dependency of some Kinds, within With and Without of those alone that may be there, of at most so many parts, and so deep.
func (d *dice) grow(parts, depth int, some ...uint8) api.Rich {
	if parts < 3 || depth == 0 {
		return api.Rich{Kind: api.Atom, Dep: d.dep()}
	}
	kind := pick(d, some...)
	n := 2
	switch kind {
	case api.If, api.Unless:
		n += d.roll(2)
	case api.And, api.Or:
		n += d.roll(3)
	case api.With, api.Without:
		if kind == api.With {
			n += d.roll(3)
		}
		some = []uint8{api.And, api.Or, api.With, api.Without}
	}
	n = min(n, parts-1)
	args := make([]api.Rich, n)
	left := parts - 1 - n
	for i := range args {
		more := d.roll(left + 1)
		left -= more
		args[i] = d.grow(1+more, depth-1, some...)
	}
	return of(kind, args...)
}

// rich is one that is valid at Needs; small ones are more frequent.
func (d *dice) rich() api.Rich {
	return d.grow(pick(d, 1, 3, 4, 5, 6, 9, 14, api.MaxNodes), pick(d, 1, 2, 3, api.MaxNest), api.And, api.Or, api.If, api.If, api.Unless, api.Unless, api.With, api.Without)
}

// but is the number of one of so many packages, or of none.
func (d *dice) but(count int) int {
	if count == 0 || d.roll(3) == 0 {
		return pick(d, absent(count)...)
	}
	return d.roll(count)
}

// some are numbers of packages, in any order, repeated ones among them.
func (d *dice) some(count int) []int {
	if count == 0 {
		return nil
	}
	return listOf(d, 6, func() int { return d.roll(count) })
}

// ask calls the table of a book with something that is valid.
func (d *dice) ask(b *book) {
	b.t.Helper()
	if d.roll(4) == 0 {
		b.any(d.some(len(b.all)), d.but(len(b.all)))
		return
	}
	b.lit(d.rich(), d.but(len(b.all)))
}

// states are some of so many packages, or all of them, if they are few.
func (d *dice) states(count int) [][]int {
	if count <= 5 {
		return states(count)
	}
	var l [][]int
	for range 24 {
		most := d.roll(5)
		l = append(l, slices.DeleteFunc(numbers(0, count), func(int) bool { return d.roll(4) >= most }))
	}
	return l
}
