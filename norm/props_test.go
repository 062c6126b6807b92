package norm_test

import (
	"reflect"
	"slices"
	"testing"

	"chandlery/api"
	"chandlery/norm"
	"chandlery/pkg"
	"chandlery/pool"
	"chandlery/shape"
)

// grown calls f with books of new tables of all sorts of pools, of up to so many packages.
func grown(t *testing.T, pools, most int, f func(d *dice, in input, b *book)) {
	t.Helper()
	d := dice(pools)
	for _, in := range []input{{}, {installed: []api.Package{at("a", "1")}}, {repos: []api.Repo{repo(filed(having("a", "b"), "/a"))}}} {
		f(&d, in, bookOf(t, in))
	}
	for range pools {
		in := d.input(most)
		f(&d, in, bookOf(t, in))
	}
}

// P17.1, P17.3, P17.4, P17.5, P17.6: what was asked for is as the words of S3 say, whatever else was asked for in between.
func TestGrown(t *testing.T) {
	yes, no := 0, 0
	grown(t, 300, 9, func(d *dice, in input, b *book) {
		for range 3 {
			for range 1 + d.roll(8) {
				d.ask(b)
			}
			first, second := b.check(d.states(len(b.all)))
			yes, no = yes+first, no+second
		}
	})
	if yes < 10000 || no < 10000 {
		t.Errorf("%d and %d: too few", yes, no)
	}
}

// P17.3: of all ways to choose the helpers' values there is just one, for every state, and with it the literal is as the words of S3 say.
func TestOneWay(t *testing.T) {
	asked := 0
	grown(t, 1000, 5, func(d *dice, in input, b *book) {
		r := d.grow(1+d.roll(8), 1+d.roll(3), api.And, api.Or, api.If, api.If, api.Unless, api.Unless, api.With, api.Without)
		b.lit(r, d.but(len(b.all)))
		if d.roll(2) == 0 {
			b.any(d.some(len(b.all)), d.but(len(b.all)))
		}
		count := len(b.all)
		for _, state := range states(count) {
			if n := ways(count, b.vars, b.clauses, state); n != 1 {
				t.Errorf("%v: %d ways; %v", state, n, b.clauses)
			}
		}
		b.check(states(count))
		asked += b.vars - count
	})
	if asked < 1500 {
		t.Errorf("%d helpers: too few", asked)
	}
}

// P17.1: without a package a rich dependency is what it is of the states without it; without none it is that of all.
func TestBut(t *testing.T) {
	told := 0
	grown(t, 150, 5, func(d *dice, in input, b *book) {
		count := len(b.all)
		r := d.rich()
		whole := b.lit(r, -1)
		lits := map[int]int{}
		for _, but := range append(absent(count), numbers(0, count)...) {
			lits[but] = b.lit(r, but)
		}
		for _, state := range states(count) {
			v := settle(t, count, b.vars, b.clauses, state)
			for but, lit := range lits {
				less := settle(t, count, b.vars, b.clauses, without(state, but))
				if v.of(lit) != less.of(whole) {
					t.Errorf("%v: %s without %d: %d and %d", state, text(r), but, v.of(lit), less.of(whole))
				}
				if v.of(lit) != v.of(whole) {
					told++
				}
			}
		}
	})
	if told < 200 {
		t.Errorf("%d: too few", told)
	}
}

// P17.1, P17.6: of a list of packages, and of an Atom, one package is its own literal; any other set adds at most one helper.
func TestOwnGrown(t *testing.T) {
	var sizes [7]int
	grown(t, 200, 9, func(d *dice, in input, b *book) {
		count := len(b.all)
		for range 12 {
			but, dep := d.but(count), d.dep()
			var l []int
			for n, p := range b.all {
				if n != but && pkg.Provides(p, dep) {
					l = append(l, n)
				}
			}
			lits := []int{b.lit(api.Rich{Kind: api.Atom, Dep: dep}, but), b.any(l, but), b.any(l, -1), b.any(append(slices.Clone(l), l...), but)}
			if len(l) == 1 && !slices.Equal(lits, []int{l[0] + 1, l[0] + 1, l[0] + 1, l[0] + 1}) {
				t.Errorf("%d: %v", l[0], lits)
			}
			if len(l) != 1 && slices.ContainsFunc(lits, func(lit int) bool { return variable(lit) < count }) {
				t.Errorf("%v: %v", l, lits)
			}
			sizes[min(len(l), 6)]++
		}
		b.check(d.states(count))
	})
	for n, times := range sizes[:5] {
		if times < 30 {
			t.Errorf("%d packages: %d: too few", n, times)
		}
	}
}

// do is a call that was made: of Lit, or of Any.
type do struct {
	any bool
	r   api.Rich
	l   []int
	but int
}

// do is a call: a valid one, or one that is refused.
func (d *dice) do(count int, valid bool) do {
	one := do{any: d.roll(4) == 0, r: d.rich(), l: d.some(count), but: d.but(count)}
	if !valid {
		one.l = slices.Insert(one.l, d.roll(len(one.l)+1), pick(d, absent(count)...))
		one.r = pick(d, of(api.Or, one.r, api.Rich{}), of(api.With, one.r, read("(a if b)")), of(api.And, read("(a or c)"), of(api.If, one.r)))
	}
	return one
}

// on makes the call.
func (one do) on(x *norm.Table) (int, api.Errno) {
	if one.any {
		return x.Any(one.l, one.but)
	}
	return x.Lit(one.r, one.but)
}

// P17.1, P17.2: the same calls make the same helpers and clauses each time, be there calls in between that are refused, or that ask for nothing new.
func TestSameCalls(t *testing.T) {
	refused := 0
	grown(t, 150, 7, func(d *dice, in input, b *book) {
		count := len(b.all)
		p, _ := pool.New(in.repos, in.installed)
		calm, _ := norm.New(p)
		again, _ := norm.New(p)
		for range 10 {
			one := d.do(count, true)
			want, e := one.on(calm)
			if e != api.OK {
				t.Fatalf("%v: %d", one, e)
			}
			if lit, e := one.on(b.x); lit != want || e != api.OK {
				t.Errorf("%v: %d, %d, want %d", one, lit, e, want)
			}
			bad := d.do(count, false)
			if lit, e := bad.on(b.x); lit != 0 || e != api.ErrForm && e != api.ErrArg {
				t.Errorf("%v: %d, %d", bad, lit, e)
			}
			refused++
			if lit, e := one.on(again); lit != want || e != api.OK {
				t.Errorf("%v, of a table of the same pool: %d, %d, want %d", one, lit, e, want)
			}
			again.Clauses()
			again.Vars()
			for _, x := range []*norm.Table{b.x, again} {
				if x.Vars() != calm.Vars() || !sameLists(x.Clauses(), calm.Clauses()) {
					t.Fatalf("%v: %d and %d variables; %v, %v", one, x.Vars(), calm.Vars(), x.Clauses(), calm.Clauses())
				}
			}
		}
	})
	if refused < 1000 {
		t.Errorf("%d: too few", refused)
	}
}

// P17.1, P17.4, P17.6: the same calls made again of one table: a list of packages has its literal, a rich dependency one of the same meaning, and what was there stays.
func TestAgain(t *testing.T) {
	grown(t, 150, 5, func(d *dice, in input, b *book) {
		var calls []do
		var lits []int
		for range 8 {
			calls = append(calls, d.do(len(b.all), true))
		}
		for round := range 3 {
			for i, one := range calls {
				lit := 0
				if one.any {
					lit = b.any(one.l, one.but)
				} else {
					lit = b.lit(one.r, one.but)
				}
				if round == 0 {
					lits = append(lits, lit)
				} else if one.any && lit != lits[i] {
					t.Errorf("any of %v without %d: %d, and then %d", one.l, one.but, lits[i], lit)
				}
			}
		}
		b.check(states(len(b.all)))
	})
}

// P17.4: what was told before of the values of a state is what is told afterwards, whatever was asked for in between.
func TestStays(t *testing.T) {
	grown(t, 150, 5, func(d *dice, in input, b *book) {
		count := len(b.all)
		for range 4 {
			d.ask(b)
		}
		vars, clauses := b.vars, b.clauses
		for range 8 {
			d.ask(b)
		}
		for _, state := range states(count) {
			before, after := settle(t, count, vars, clauses, state), settle(t, count, b.vars, b.clauses, state)
			if !slices.Equal(before, after[:vars]) {
				t.Errorf("%v: %v, and then %v", state, before, after)
			}
		}
	})
}

// P17.5: every state of packages, together with some values of the helpers, makes all clauses true, so that no clause is about packages alone.
func TestHelpers(t *testing.T) {
	told := 0
	grown(t, 150, 9, func(d *dice, in input, b *book) {
		for range 8 {
			d.ask(b)
		}
		for _, clause := range b.x.Clauses() {
			told++
			if !slices.ContainsFunc(clause, func(lit int) bool { return variable(lit) >= len(b.all) }) {
				t.Errorf("%v: no helper, of %d packages", clause, len(b.all))
			}
		}
	})
	if told < 3000 {
		t.Errorf("%d: too few", told)
	}
}

// P17.6: how many helpers there are in all is at most the number of parts, and of lists.
func TestFew(t *testing.T) {
	grown(t, 150, 9, func(d *dice, in input, b *book) {
		most := b.vars
		for range 10 {
			one := d.do(len(b.all), true)
			if _, e := one.on(b.x); e != api.OK {
				t.Fatalf("%v: %d", one, e)
			}
			if most++; !one.any {
				most += shape.Count(one.r) - 1
			}
			if b.x.Vars() > most {
				t.Errorf("%v: %d variables, at most %d", one, b.x.Vars(), most)
			}
		}
	})
}

// R1: what is handed in stays as it was, behind the ends of the lists, too.
func TestHandedIn(t *testing.T) {
	grown(t, 150, 7, func(d *dice, in input, b *book) {
		count := len(b.all)
		for range 8 {
			l := append(d.some(count), d.some(count)...)
			l = append(l, 77, -5)
			before := slices.Clone(l)
			b.any(l[:len(l)-2], d.but(count))
			b.x.Any(l, -1)
			if !slices.Equal(l, before) {
				t.Errorf("now %v, of %v", l, before)
			}
			r := d.rich()
			r.Args = append(r.Args, atom("behind"), atom("the end"))
			first := shape.Copy(r)
			one := r
			one.Args = r.Args[:len(r.Args)-2]
			b.lit(one, d.but(count))
			b.x.Lit(of(api.And, one), -1)
			if !reflect.DeepEqual(shape.Copy(r), first) {
				t.Errorf("now %v, of %v", r, first)
			}
		}
	})
}

// spoil changes all of a rich dependency.
func spoil(r *api.Rich) {
	for i := range r.Args {
		spoil(&r.Args[i])
	}
	r.Kind, r.Dep = 8-r.Kind, named("spoilt")
}

// R1: what was handed in may be changed afterwards, and so may the pool; what was asked for, and what is asked for then, is as before.
func TestChangedArguments(t *testing.T) {
	grown(t, 150, 5, func(d *dice, in input, b *book) {
		p, _ := pool.New(in.repos, in.installed)
		b.x, _ = norm.New(p)
		for i, one := range b.all {
			b.all[i] = pkg.Copy(one)
		}
		ask := func() {
			r, l, but := d.rich(), d.some(len(b.all)), d.but(len(b.all))
			first, second := b.lit(r, but), b.any(l, but)
			own, numbers := shape.Copy(r), slices.Clone(l)
			spoil(&r)
			for i := range l {
				l[i] = len(b.all) - 1 - l[i]
			}
			if same := b.any(numbers, but); same != second {
				t.Errorf("any of %v without %d: %d, and then %d", numbers, but, second, same)
			}
			again := b.lit(own, but)
			for _, state := range states(len(b.all)) {
				if v := settle(t, len(b.all), b.vars, b.clauses, state); v.of(first) != v.of(again) {
					t.Errorf("%v: %s without %d: %d and %d", state, text(own), but, first, again)
				}
			}
		}
		ask()
		for _, one := range in.all() {
			for i := range one.Provides {
				one.Provides[i] = named("spoilt")
			}
			for i := range one.Files {
				one.Files[i] = "/spoilt"
			}
		}
		ask()
		*p = pool.Pool{}
		ask()
		b.check(states(len(b.all)))
	})
}

// R1: clauses that are told may be changed afterwards, up to their capacity, and are not changed by what is asked for later; no two of them share memory.
func TestChangedResults(t *testing.T) {
	grown(t, 150, 5, func(d *dice, in input, b *book) {
		for range 4 {
			d.ask(b)
		}
		first, second := b.x.Clauses(), b.x.Clauses()
		want := copied(first)
		for i, clause := range first {
			_ = append(clause, 99)
			clause = clause[:cap(clause)]
			for j := range clause {
				clause[j] = 1 - j
			}
			if !sameLists(first[i+1:], want[i+1:]) {
				t.Fatalf("%v, want %v", first[i+1:], want[i+1:])
			}
		}
		whole := first[:cap(first)]
		for i := range whole {
			whole[i] = []int{7}
		}
		b.grew("after results that were changed", 0)
		for range 4 {
			d.ask(b)
		}
		if !sameLists(second, want) {
			t.Errorf("told before: %v, want %v", second, want)
		}
		b.check(states(len(b.all)))
	})
}

// R1: two tables of one pool do not know of each other.
func TestTwoTables(t *testing.T) {
	grown(t, 100, 5, func(d *dice, in input, b *book) {
		p, _ := pool.New(in.repos, in.installed)
		first, _ := norm.New(p)
		second, _ := norm.New(p)
		b.x = first
		other := &book{t: t, x: second, all: b.all, vars: b.vars}
		for range 10 {
			one := pick(d, b, other)
			d.ask(one)
			b.grew("asked of one of two", 0)
			other.grew("asked of one of two", 0)
		}
		b.check(states(len(b.all)))
		other.check(states(len(b.all)))
		for n, want := range b.all {
			if got, e := p.Package(n); e != api.OK || !pkg.Same(got, want) {
				t.Errorf("%d of the pool is now %v, of %v", n, got, want)
			}
		}
	})
}
