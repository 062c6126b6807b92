package rules_test

import (
	"reflect"
	"slices"
	"testing"

	"chandlery/api"
	"chandlery/ask"
	"chandlery/norm"
	"chandlery/pkg"
	"chandlery/pool"
	"chandlery/rules"
	"chandlery/shape"
)

// P18.1: the items are those of S4, in order; the clauses of those about packages alone are just those of the table of the Terms, those of the others are a literal of their own; All is the base, and then all of these.
func TestWords(t *testing.T) {
	var told [api.JobItem + 1][3]int // how many items of a Kind have no clause, one, several
	grown(500, 5, 4, func(d *dice, in input, request api.Request) {
		w, r := wordsOf(in, request), made(t, in, request)
		items := w.items()
		wantItems(t, "items", r.Items(), items...)
		wantItems(t, "the model's", r.Model().Items(), items...)
		var all [][]int
		for i, x := range items {
			got := r.Clauses(i)
			if x.Kind == api.NeedItem || x.Kind == api.ClashItem {
				wantOwn(t, r, x)
			} else {
				wantLists(t, "clauses", got, w.plain(x)...)
			}
			all = append(all, got...)
			told[x.Kind][min(len(got), 2)]++
		}
		wantLists(t, "all", r.All(), append(r.Base(), all...)...)
		for _, i := range absent(len(items)) {
			wantLists(t, "none", r.Clauses(i))
		}
		if r.Vars() < len(in.all()) || r.Vars() == len(in.all()) && len(r.Base()) > 0 {
			t.Errorf("%d variables, %v", r.Vars(), r.Base())
		}
	})
	for _, kind := range []uint8{api.ArchItem, api.NeedItem, api.ClashItem, api.TwinItem, api.KeepItem} {
		if told[kind][1] < 500 || told[kind][0]+told[kind][2] > 0 {
			t.Errorf("%d: %v", kind, told[kind])
		}
	}
	for _, kind := range []uint8{api.OverItem, api.JobItem} {
		if slices.Min(told[kind][:]) < 150 {
			t.Errorf("%d: %v: too few", kind, told[kind])
		}
	}
}

// P18.1: the helpers, and the base, are those of a table of which the literals are asked in the order of the items.
func TestTable(t *testing.T) {
	grown(150, 5, 2, func(d *dice, in input, request api.Request) {
		a, p := asked(t, in, request)
		r, all := bookOf(t, a), in.all()
		x, e := norm.New(p)
		if e != api.OK {
			t.Fatal(e)
		}
		for _, one := range r.Items() {
			var lit int
			switch one.Kind {
			case api.NeedItem:
				lit, e = x.Lit(all[one.P].Requires[one.Q], -1)
			case api.ClashItem:
				lit, e = x.Lit(all[one.P].Conflicts[one.Q], one.P)
				lit = -lit
			default:
				continue
			}
			if got := wantOwn(t, r, one); e != api.OK || got != lit {
				t.Errorf("%v: %d, want %d, %d", one, got, lit, e)
			}
		}
		if wantLists(t, "base", r.Base(), x.Clauses()...); r.Vars() != x.Vars() {
			t.Errorf("%d variables, want %d", r.Vars(), x.Vars())
		}
	})
}

// P18.3: for every state there is one way alone to choose the helpers, which is found step by step; with it the clauses of an item are true exactly if the state satisfies the item.
func TestEquivalence(t *testing.T) {
	var told [api.JobItem + 1]map[bool]int
	for kind := range told {
		told[kind] = map[bool]int{}
	}
	grown(200, 4, 3, func(d *dice, in input, request api.Request) {
		w, r := wordsOf(in, request), made(t, in, request)
		items, base, m := r.Items(), r.Base(), r.Model()
		for _, state := range d.states(12, len(w.all)) {
			v, in := settle(t, len(w.all), r.Vars(), base, state), w.crowd(state)
			for i, x := range items {
				yes := v.fulfil(r.Clauses(i))
				if yes != w.holds(in, x) || yes != m.Holds(state, x) {
					t.Errorf("%v: %v: %v is %v", state, x, r.Clauses(i), yes)
				}
				told[x.Kind][yes]++
			}
			if v.fulfil(r.All()) != m.Good(state) {
				t.Errorf("%v is good: %v", state, m.Good(state))
			}
		}
	})
	for kind := api.ArchItem; kind <= api.JobItem; kind++ {
		if told[kind][true] < 500 || told[kind][false] < 500 {
			t.Errorf("%d: %v: too few", kind, told[kind])
		}
	}
}

// small is a valid package of few dependencies.
func (d *dice) small() api.Package {
	p := d.pkg()
	few := func() api.Rich {
		return d.grow(1+d.roll(4), 2, api.And, api.Or, api.If, api.Unless, api.With, api.Without)
	}
	p.Requires, p.Conflicts = nil, nil
	switch d.roll(4) {
	case 0, 1:
		p.Requires = []api.Rich{few()}
	case 2:
		p.Conflicts = []api.Rich{d.grow(1+d.roll(4), 2, api.And, api.Or, api.Unless, api.With, api.Without)}
	}
	return p
}

// little calls f with rule books of small pools, of at most so many variables, and with what they are of.
func little(t *testing.T, pools, most int, f func(d *dice, w words, r *rules.Rules)) {
	t.Helper()
	d, count := dice(pools), 0
	for range pools {
		in := input{[]api.Repo{repo(listOf(&d, 4, d.small)...), repo(listOf(&d, 2, d.small)...)}, listOf(&d, 3, d.small)}
		request := d.request(in)
		if r := made(t, in, request); r.Vars() <= most {
			f(&d, wordsOf(in, request), r)
			count++
		}
	}
	if count < pools/2 {
		t.Errorf("%d pools: too few", count)
	}
}

// P18.3: of all ways to choose the helpers there is just one for each state by which the base is true; with it the clauses of an item are true exactly if the state satisfies the item.
func TestOneWay(t *testing.T) {
	helpers := 0
	little(t, 600, 10, func(d *dice, w words, r *rules.Rules) {
		ways := map[string]int{}
		base, items, count := r.Base(), r.Items(), len(w.all)
		every(r.Vars(), func(v values) {
			if !v.fulfil(base) {
				return
			}
			state := which(0, count, func(n int) bool { return v[n] > 0 })
			ways[text(state)]++
			in := w.crowd(state)
			for i, x := range items {
				if yes := v.fulfil(r.Clauses(i)); yes != w.holds(in, x) {
					t.Errorf("%v: %v: %v is %v", state, x, r.Clauses(i), yes)
				}
			}
		})
		for _, state := range states(count) {
			if n := ways[text(state)]; n != 1 {
				t.Errorf("%v: %d ways of %v", state, n, base)
			}
		}
		helpers += r.Vars() - count
	})
	if helpers < 500 {
		t.Errorf("%d helpers: too few", helpers)
	}
}

// text is a state as a text, which no other one has.
func text(state []int) string {
	var s []byte
	for _, n := range state {
		s = append(s, byte(n))
	}
	return string(s)
}

// P18.5, P18.2: values that make all clauses true are those of a good state, and each good state has such values.
func TestGood(t *testing.T) {
	told := map[bool]int{}
	little(t, 800, 10, func(d *dice, w words, r *rules.Rules) {
		all, m, found := r.All(), r.Model(), map[string]bool{}
		every(r.Vars(), func(v values) {
			state := r.State(v.bools())
			if !slices.Equal(state, which(0, len(w.all), func(n int) bool { return v[n] > 0 })) {
				t.Errorf("%v: the state %v", v, state)
			}
			if v.fulfil(all) {
				found[text(state)] = true
			}
		})
		for _, state := range states(len(w.all)) {
			yes := w.good(state)
			if found[text(state)] != yes || m.Good(state) != yes {
				t.Errorf("%v is good: %v; found: %v", state, yes, found[text(state)])
			}
			told[yes]++
		}
	})
	if told[true] < 500 || told[false] < 500 {
		t.Errorf("%v: too few", told)
	}
}

// P18.4, P18.2: a literal is true exactly if the state satisfies what it is of; what existed stays, its meaning, too.
func TestLitGrown(t *testing.T) {
	told := map[bool]int{}
	grown(150, 4, 2, func(d *dice, in input, request api.Request) {
		w, r := wordsOf(in, request), made(t, in, request)
		before := answersOf(r)
		var lits []int
		var deps []api.Rich
		for range 6 {
			deps = append(deps, d.needs())
			lits = append(lits, wantLit(t, r, deps[len(deps)-1]))
		}
		wantGrown(t, "behind several", answersOf(r), before)
		base := r.Base()
		for _, state := range d.states(8, len(w.all)) {
			v, in := settle(t, len(w.all), r.Vars(), base, state), w.crowd(state)
			for i, lit := range lits {
				yes := v.of(lit) > 0
				if yes != in.by(deps[i]) {
					t.Errorf("%v: %v: %d is %v", state, deps[i], lit, yes)
				}
				told[yes]++
			}
			if old := settle(t, len(w.all), before.vars, before.base, state); !slices.Equal(old, v[:before.vars]) {
				t.Errorf("%v: %v, before it %v", state, v, old)
			}
		}
	})
	if told[true] < 1000 || told[false] < 1000 {
		t.Errorf("%v: too few", told)
	}
}

// P18.4: of all ways to choose the helpers there is still one alone for each state, behind a Lit.
func TestOneWayLit(t *testing.T) {
	helpers := 0
	little(t, 600, 8, func(d *dice, w words, r *rules.Rules) {
		dep := d.grow(1+d.roll(5), 2, api.And, api.Or, api.If, api.Unless, api.With, api.Without)
		before := r.Vars()
		lit := wantLit(t, r, dep)
		helpers += r.Vars() - before
		ways, base := map[string]int{}, r.Base()
		every(r.Vars(), func(v values) {
			if !v.fulfil(base) {
				return
			}
			state := r.State(v.bools())
			ways[text(state)]++
			if v.of(lit) > 0 != w.crowd(state).by(dep) {
				t.Errorf("%v: %v: %d is %d", state, dep, lit, v.of(lit))
			}
		})
		for _, state := range states(len(w.all)) {
			if n := ways[text(state)]; n != 1 {
				t.Errorf("%v: %d ways of %v", state, n, base)
			}
		}
	})
	if helpers < 200 {
		t.Errorf("%d helpers: too few", helpers)
	}
}

// P18.6: clauses of Arch, Over, Twin, Keep and Job are about packages alone, and so they are behind a Lit.
func TestPackagesAlone(t *testing.T) {
	var told [api.JobItem + 1]int
	grown(200, 5, 2, func(d *dice, in input, request api.Request) {
		r := made(t, in, request)
		if d.roll(2) == 0 {
			wantLit(t, r, d.needs())
		}
		for i, x := range r.Items() {
			for _, clause := range r.Clauses(i) {
				about := !slices.ContainsFunc(clause, func(lit int) bool { return lit == 0 || variable(lit) >= len(in.all()) })
				if !about && x.Kind != api.NeedItem && x.Kind != api.ClashItem {
					t.Errorf("%v: %v, of %d packages", x, clause, len(in.all()))
				}
				told[x.Kind]++
			}
		}
	})
	if slices.Min(told[1:]) < 300 {
		t.Errorf("%v: too few", told)
	}
}

// P18.1, P18.2: all of it is the same each time, of one rule book, of another one of the same ask, and of one of the same request, whatever other rule books there are.
func TestSame(t *testing.T) {
	grown(100, 5, 2, func(d *dice, in input, r api.Request) {
		a, p := asked(t, in, r)
		first := bookOf(t, a)
		b, e := ask.New(p, d.request(in))
		if e != api.OK {
			t.Fatal(e)
		}
		other, second, third := bookOf(t, b), bookOf(t, a), made(t, in, r)
		before, apart := answersOf(first), answersOf(other)
		values := make([]bool, d.roll(40))
		for i := range values {
			values[i] = d.roll(2) == 0
		}
		for range 3 {
			for _, one := range []*rules.Rules{first, second, third} {
				wantSame(t, "each time", answersOf(one), before)
				if !slices.Equal(one.State(values), first.State(values)) || one.Model() == nil || one.Model() != one.Model() {
					t.Errorf("%v, %v", one.State(values), one.Model())
				}
			}
			dep := d.needs()
			lit, e := first.Lit(dep)
			before = answersOf(first)
			wantSame(t, "of another request", answersOf(other), apart)
			for _, one := range []*rules.Rules{second, third} {
				if same, f := one.Lit(dep); same != lit || f != e {
					t.Errorf("Lit of %v: %d, %d, want %d, %d", dep, same, f, lit, e)
				}
			}
		}
	})
}

// P18.1: the model is that of what is asked for: what a state breaks by it is what has a clause that is false.
func TestModel(t *testing.T) {
	grown(80, 5, 2, func(d *dice, in input, r api.Request) {
		w, book := wordsOf(in, r), made(t, in, r)
		m := book.Model()
		if m == nil {
			t.Fatal("no model")
		}
		for _, state := range d.states(4, len(w.all)) {
			v := settle(t, len(w.all), book.Vars(), book.Base(), state)
			var broken []api.Item
			for i, x := range book.Items() {
				if !v.fulfil(book.Clauses(i)) {
					broken = append(broken, x)
				}
			}
			wantItems(t, "broken", m.Broken(state), broken...)
		}
	})
}

// R1: what is handed in stays as it was, behind the ends of the lists, too.
func TestHandedIn(t *testing.T) {
	grown(80, 5, 2, func(d *dice, in input, r api.Request) {
		a, p := asked(t, in, r)
		book := bookOf(t, a)
		successors := a.Successors(0)
		dep := d.needs()
		dep.Args = append(dep.Args, atom("behind"), atom("the end"))
		first := shape.Copy(dep)
		one := dep
		one.Args = dep.Args[:len(dep.Args)-2]
		wantLit(t, book, one)
		if _, e := book.Lit(of(api.And, one)); e != api.ErrForm {
			t.Errorf("And of one: %d", e)
		}
		if !reflect.DeepEqual(shape.Copy(dep), first) {
			t.Errorf("now %v, of %v", dep, first)
		}
		values := make([]bool, 20)
		for i := range values {
			values[i] = i%3 > 0
		}
		before := slices.Clone(values)
		book.State(values[:d.roll(20)])
		book.All()
		if !slices.Equal(values, before) {
			t.Errorf("now %v, of %v", values, before)
		}
		for n, want := range in.all() {
			if got, e := p.Package(n); e != api.OK || !pkg.Same(got, want) {
				t.Errorf("%d of the pool is now %v, of %v", n, got, want)
			}
		}
		if !reflect.DeepEqual(a.Request(), r) || !slices.Equal(a.Successors(0), successors) {
			t.Errorf("the request is now %v, of %v", a.Request(), r)
		}
	})
}

// R1: what the pool and the request were made of may be changed afterwards, and so may the pool, and the dependency of a Lit; nothing that is told hangs on it.
func TestChangedArguments(t *testing.T) {
	grown(80, 5, 2, func(d *dice, in input, r api.Request) {
		a, p := asked(t, in, r)
		book, calm := bookOf(t, a), made(t, in, r)
		before := answersOf(book)
		for j := range r.Jobs {
			r.Jobs[j] = job(1+r.Jobs[j].Kind%4, "changed")
		}
		for i := range r.Edits {
			r.Edits[i] = edit(api.AllowErase, 0)
		}
		for _, one := range in.all() {
			for _, l := range [][]api.Rich{one.Requires, one.Conflicts} {
				for q := range l {
					l[q] = atom("changed")
				}
			}
			for _, l := range [][]api.Dep{one.Obsoletes, one.Provides} {
				for q := range l {
					l[q] = named("changed")
				}
			}
		}
		wantSame(t, "what it was made of was changed", answersOf(book), before)
		*p = pool.Pool{}
		wantSame(t, "the pool was changed", answersOf(book), before)
		for range 3 {
			dep := d.needs()
			lit := wantLit(t, book, dep)
			if want := wantLit(t, calm, dep); lit != want {
				t.Errorf("%v: %d, want %d", dep, lit, want)
			}
			dep.Kind = 8 - dep.Kind
			for i := range dep.Args {
				dep.Args[i] = atom("changed")
			}
		}
		wantSame(t, "behind a Lit", answersOf(book), answersOf(calm))
	})
}

// spoil changes lists up to their capacity.
func spoil(l [][]int) {
	for _, clause := range l {
		_ = append(clause, 99)
		clause = clause[:cap(clause)]
		for i := range clause {
			clause[i] = 1 - i
		}
	}
	_ = append(l, []int{98})
	l = l[:cap(l)]
	for i := range l {
		l[i] = []int{7}
	}
}

// R1: what is told may be changed afterwards, up to its capacity; nothing that is told again hangs on it, nor anything else that was told.
func TestChangedResults(t *testing.T) {
	grown(80, 5, 2, func(d *dice, in input, r api.Request) {
		book := made(t, in, r)
		wantLit(t, book, d.needs())
		one := answersOf(book)
		before := one.copy()
		values := slices.Repeat([]bool{true}, book.Vars())
		state := book.State(values)
		l := one.items[:cap(one.items)]
		for i := range l {
			l[i] = item(77, -i, i)
		}
		for i := range state[:cap(state)] {
			state[:cap(state)][i] = -7
		}
		wantSame(t, "items were changed", answers{before.items, one.clauses, one.base, one.all, one.vars}, before)
		spoil(one.base)
		wantSame(t, "the base was changed", answers{before.items, one.clauses, before.base, one.all, one.vars}, before)
		for i := range one.clauses {
			spoil(one.clauses[i])
			if !slices.EqualFunc(one.clauses[i+1:], before.clauses[i+1:], sameLists) {
				t.Fatalf("%v, want %v", one.clauses[i+1:], before.clauses[i+1:])
			}
		}
		wantLists(t, "clauses were changed", one.all, before.all...)
		for i, clause := range one.all {
			spoil([][]int{clause})
			if !sameLists(one.all[i+1:], before.all[i+1:]) {
				t.Fatalf("%v, want %v", one.all[i+1:], before.all[i+1:])
			}
		}
		spoil(one.all)
		again := answersOf(book)
		wantSame(t, "told again", again, before)
		if got := book.State(values); !slices.Equal(got, numbers(0, len(in.all()))) {
			t.Errorf("the state %v", got)
		}
		wantLit(t, book, d.needs())
		wantSame(t, "told ahead of a Lit", again, before)
	})
}
