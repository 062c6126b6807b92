package rules_test

import (
	"slices"
	"testing"

	"chandlery/api"
	"chandlery/ask"
	"chandlery/rules"
)

// P18.1: the chapter's example: the literal of what one package alone provides is, by chapter 17, that one's own, and what is meant by one literal or another one is told by the base.
func TestExample(t *testing.T) {
	in := input{[]api.Repo{repo(providing(at("b", "1"), named("x")))}, []api.Package{needing(at("a", "1"), "x")}}
	r := made(t, in, jobs())
	need, keep := item(api.NeedItem, 0, 0), item(api.KeepItem, 0)
	wantItems(t, "items", r.Items(), need, keep)
	wantOf(t, r, need, []int{-1, 2})
	wantOf(t, r, keep, []int{1})
	wantLists(t, "base", r.Base())
	wantLists(t, "all", r.All(), []int{-1, 2}, []int{1})
	if r.Vars() != 2 {
		t.Errorf("%d variables", r.Vars())
	}
	for _, state := range states(2) {
		h := wantOwn(t, r, need)
		if v := settle(t, 2, r.Vars(), r.Base(), state); v.of(h) > 0 != slices.Contains(state, 1) {
			t.Errorf("%v: %d is %d", state, h, v.of(h))
		}
	}
}

// P18.1: what several packages provide, or nobody, has a helper, and the base says what it is.
func TestHelpers(t *testing.T) {
	x := providing(at("b", "1"), named("x"))
	in := input{[]api.Repo{repo(x, x, needing(at("c", "1"), "y"))}, []api.Package{needing(at("a", "1"), "x")}}
	r := made(t, in, jobs()) // 0: a; 1, 2: b that provides x; 3: c
	several, nobody := wantOwn(t, r, item(api.NeedItem, 0, 0)), wantOwn(t, r, item(api.NeedItem, 3, 0))
	if variable(several) < 4 || variable(nobody) < 4 || r.Vars() != 6 {
		t.Errorf("%d, %d, %d variables", several, nobody, r.Vars())
	}
	for _, state := range states(4) {
		v := settle(t, 4, r.Vars(), r.Base(), state)
		if v.of(several) > 0 != (slices.Contains(state, 1) || slices.Contains(state, 2)) || v.of(nobody) > 0 {
			t.Errorf("%v: %v", state, v)
		}
	}
}

// wantNone asks for a rule book that tells nothing.
func wantNone(t *testing.T, what string, r *rules.Rules) {
	t.Helper()
	wantItems(t, what, r.Items())
	wantLists(t, what+": base", r.Base())
	wantLists(t, what+": all", r.All())
	for _, i := range append(absent(0), 1, 2, 7) {
		wantLists(t, what+": clauses", r.Clauses(i))
	}
	for _, l := range [][]bool{nil, {}, {true}, {false, true}, slices.Repeat([]bool{true}, 300)} {
		if state := r.State(l); len(state) != 0 {
			t.Errorf("%s: state %v", what, state)
		}
	}
	if r.Vars() != 0 {
		t.Errorf("%s: %d variables", what, r.Vars())
	}
}

// P18.1, P18.2: an ask of nil, or one that is over no pool, and a rule book of nil.
func TestNil(t *testing.T) {
	for what, a := range map[string]*ask.Ask{"nil": nil, "of no New": new(ask.Ask)} {
		if r, e := rules.New(a); r != nil || e != api.ErrNil {
			t.Errorf("New of an ask, %s: %v, %d", what, r, e)
		}
	}
	var none *rules.Rules
	wantNone(t, "nil", none)
	if none.Model() != nil {
		t.Errorf("a model of nil: %v", none.Model())
	}
	wantNone(t, "of no New", new(rules.Rules))
	for what, d := range map[string]api.Rich{"an Atom": atom("a"), "what is not valid": {}, "If": read("(a if b)")[0]} {
		for _, r := range []*rules.Rules{none, new(rules.Rules)} {
			if lit, e := r.Lit(d); lit != 0 || e != api.ErrNil {
				t.Errorf("Lit of %s: %d, %d", what, lit, e)
			}
		}
	}
}

// P18.1, P18.2: a pool of nothing, without jobs, with jobs that are dropped, and with jobs of each Kind, which mean nobody.
func TestNothing(t *testing.T) {
	drop := edited(jobs(job(api.Install, "a"), job(api.Sync, "a")), edit(api.DropJob, 1), edit(api.DropJob, 0))
	for _, in := range []input{{}, {make([]api.Repo, api.MaxRepos), []api.Package{}}} {
		for _, r := range []api.Request{jobs(), drop, {Arch: api.AArch64, Vendor: true, Jobs: []api.Job{}, Edits: []api.Edit{}}} {
			wantNone(t, "of an empty pool", made(t, in, r))
		}
		r := made(t, in, jobs(job(api.Erase, "a"), job(api.Install, "a"), job(api.Upgrade, "a"), job(api.Sync, "a")))
		wantItems(t, "jobs", r.Items(), item(api.JobItem, 0), item(api.JobItem, 1), item(api.JobItem, 2), item(api.JobItem, 3))
		wantOf(t, r, item(api.JobItem, 0))
		wantOf(t, r, item(api.JobItem, 1), []int{}) // one clause, without a literal that could be true
		wantOf(t, r, item(api.JobItem, 2))
		wantOf(t, r, item(api.JobItem, 3))
		wantLists(t, "all", r.All(), []int{})
		lit, e := r.Lit(atom("a"))
		if e != api.OK || variable(lit) != 0 || r.Vars() != 1 || settle(t, 0, 1, r.Base(), nil).of(lit) > 0 {
			t.Errorf("Lit of what nobody provides: %d, %d; %d variables, %v", lit, e, r.Vars(), r.Base())
		}
		if state := r.State([]bool{true, true}); len(state) != 0 {
			t.Errorf("a helper is among %v", state)
		}
	}
}

// everything has items of each Kind: 0 to 2 are installed.
func everything() (input, api.Request) {
	a := needing(forArch(at("a", "2"), api.AArch64), "x", "(b or x)")
	a.Conflicts, a.Obsoletes = read("c", "(b and x)"), []api.Dep{named("b"), named("nobody")}
	a.Recommends, a.Supplements, a.Suggests, a.Enhances = read("c"), read("c", "b"), read("c"), read("c", "b", "x")
	return input{
		[]api.Repo{repo(a, providing(at("c", "1"), named("x"))), repo(forArch(at("a", "1"), api.I686), forArch(at("d", "1"), api.AArch64))},
		[]api.Package{against(forArch(at("a", "1"), api.X8664), "c"), needing(at("b", "1"), "a"), over(at("b", "2"), named("d"))},
	}, edited(jobs(job(api.Install, "c"), job(api.Erase, "d"), job(api.Upgrade, "a")), edit(api.AllowErase, 1), edit(api.DropJob, 1))
}

// P18.1: items of each Kind, in their order, and the clauses of each: 0: a 1, 1: b 1, 2: b 2; 3: a 2, 4: c that provides x, 5: a 1, 6: d.
func TestItems(t *testing.T) {
	in, request := everything()
	r := made(t, in, request)
	helper := func(p, q int) int {
		h := wantOwn(t, r, item(api.NeedItem, p, q))
		if variable(h) < 7 {
			t.Errorf("NeedItem %d %d: %d", p, q, h)
		}
		return h
	}
	both := wantOwn(t, r, item(api.ClashItem, 3, 1))
	if variable(both) < 7 {
		t.Errorf("ClashItem 3 1: %d", both)
	}
	var items []api.Item
	var all [][]int
	for i, one := range []struct {
		x    api.Item
		want [][]int
	}{
		{item(api.ClashItem, 0, 0), [][]int{{-1, -5}}},
		{item(api.NeedItem, 1, 0), [][]int{{-2, helper(1, 0)}}},
		{item(api.OverItem, 2, 0), [][]int{{-3, -7}}},
		{item(api.ArchItem, 3), [][]int{{-4}}},
		{item(api.NeedItem, 3, 0), [][]int{{-4, 5}}},
		{item(api.NeedItem, 3, 1), [][]int{{-4, helper(3, 1)}}},
		{item(api.ClashItem, 3, 0), [][]int{{-4, -5}}},
		{item(api.ClashItem, 3, 1), [][]int{{-4, both}}},
		{item(api.OverItem, 3, 0), [][]int{{-4, -2}, {-4, -3}}},
		{item(api.OverItem, 3, 1), nil},
		{item(api.ArchItem, 6), [][]int{{-7}}},
		{item(api.TwinItem, 0, 3), [][]int{{-1, -4}}},
		{item(api.TwinItem, 1, 2), [][]int{{-2, -3}}},
		{item(api.TwinItem, 3, 5), [][]int{{-4, -6}}},
		{item(api.KeepItem, 0), [][]int{{1}}},
		{item(api.KeepItem, 2), [][]int{{3, 4}}},
		{item(api.JobItem, 0), [][]int{{5}}},
		{item(api.JobItem, 2), [][]int{{1}}},
	} {
		items, all = append(items, one.x), append(all, one.want...)
		if got := r.Clauses(i); !sameLists(got, one.want) {
			t.Errorf("%d, %v: %v, want %v", i, one.x, got, one.want)
		}
	}
	wantItems(t, "items", r.Items(), items...)
	wantItems(t, "the model's", r.Model().Items(), items...)
	wantLists(t, "all", r.All(), slices.Concat(r.Base(), all)...)
	for _, state := range states(7) {
		has := func(l ...int) bool {
			return slices.ContainsFunc(l, func(n int) bool { return slices.Contains(state, n) })
		}
		v := settle(t, 7, r.Vars(), r.Base(), state)
		if v.of(helper(1, 0)) > 0 != has(0, 3, 5) || v.of(helper(3, 1)) > 0 != has(1, 2, 4) || v.of(both) < 0 != (has(1, 2) && has(4)) {
			t.Errorf("%v: %v of %v", state, v, r.Base())
		}
	}
}

// P18.1: numbers of items that there are not have no clauses.
func TestNoSuchItem(t *testing.T) {
	in, request := everything()
	r := made(t, in, request)
	for _, i := range absent(len(r.Items())) {
		wantLists(t, "none", r.Clauses(i))
	}
	wantLists(t, "the last one", r.Clauses(len(r.Items())-1), []int{1})
	wantLists(t, "the first one", r.Clauses(0), []int{-1, -5})
}

// P18.1: what a package conflicts with is held against the others alone; what it requires it may provide itself.
func TestItself(t *testing.T) {
	all := func(p api.Package) api.Package {
		p.Provides, p.Requires, p.Conflicts = []api.Dep{named("x")}, read("x", "(x and a)"), read("x", "(x with a)", "(x or y)", "a")
		return p
	}
	in := input{[]api.Repo{repo(providing(at("b", "1"), named("x")), providing(at("c", "1"), named("x"), named("y")))}, []api.Package{all(at("a", "1"))}}
	r := made(t, in, jobs())
	own, both := wantOwn(t, r, item(api.NeedItem, 0, 0)), wantOwn(t, r, item(api.NeedItem, 0, 1))
	x, with := wantOwn(t, r, item(api.ClashItem, 0, 0)), wantOwn(t, r, item(api.ClashItem, 0, 1))
	or, a := wantOwn(t, r, item(api.ClashItem, 0, 2)), wantOwn(t, r, item(api.ClashItem, 0, 3))
	for _, state := range states(3) {
		v := settle(t, 3, r.Vars(), r.Base(), state)
		first, others := slices.Contains(state, 0), slices.Contains(state, 1) || slices.Contains(state, 2)
		if v.of(own) > 0 != (first || others) || v.of(both) > 0 != first {
			t.Errorf("%v: what it requires: %v", state, v)
		}
		if v.of(x) < 0 != others || v.of(or) < 0 != others || v.of(with) < 0 || v.of(a) < 0 {
			t.Errorf("%v: what it conflicts with: %v", state, v)
		}
	}
	alone := made(t, input{installed: []api.Package{needing(at("a", "1"), "a"), against(at("b", "1"), "c"), at("c", "1")}}, jobs())
	wantOf(t, alone, item(api.NeedItem, 0, 0), []int{-1, 1})
	wantOf(t, alone, item(api.ClashItem, 1, 0), []int{-2, -3})
}

// P18.1: an Obsoletes names by own names alone, each other package, in increasing order, and nobody has no clause.
func TestOver(t *testing.T) {
	in := input{[]api.Repo{
		repo(over(at("a", "1"), named("a"), named("b"), ranged("b", api.Less, "2"), named("x"))),
		repo(at("a", "2"), at("b", "1"), providing(at("c", "1"), named("b"), named("x"))),
	}, []api.Package{at("b", "2")}}
	r := made(t, in, jobs()) // 0: b 2; 1: a that obsoletes; 2: a 2, 3: b 1, 4: c provides b and x
	wantOf(t, r, item(api.OverItem, 1, 0), []int{-2, -3})
	wantOf(t, r, item(api.OverItem, 1, 1), []int{-2, -1}, []int{-2, -4})
	wantOf(t, r, item(api.OverItem, 1, 2), []int{-2, -4})
	wantOf(t, r, item(api.OverItem, 1, 3))
}

// P18.1: a KeepItem is a clause of all successors, in increasing order, whose architecture need not fit; edits count.
func TestKeep(t *testing.T) {
	in := input{[]api.Repo{repo(at("a", "1"), at("a", "3"), over(forArch(at("c", "1"), api.AArch64), named("a")))}, []api.Package{at("a", "2"), at("b", "1")}}
	r := made(t, in, jobs()) // 0: a 2, 1: b; 2: a 1, 3: a 3, 4: c that obsoletes a
	wantOf(t, r, item(api.KeepItem, 0), []int{1, 4, 5})
	wantOf(t, r, item(api.KeepItem, 1), []int{2})
	r = made(t, in, edited(jobs(job(api.Erase, "b")), edit(api.AllowDown, 0)))
	wantOf(t, r, item(api.KeepItem, 0), []int{1, 3, 4, 5})
	wantItems(t, "the last items", r.Items()[len(r.Items())-2:], item(api.KeepItem, 0), item(api.JobItem, 0))
}

// P18.1: jobs of each Kind, which mean nobody, one package, and several ones.
func TestJobs(t *testing.T) {
	in := input{
		[]api.Repo{repo(forArch(at("a", "1"), api.X8664), forArch(at("a", "3"), api.X8664), providing(at("c", "1"), named("a"))), repo(forArch(at("a", "4"), api.AArch64), at("b", "1"))},
		[]api.Package{at("a", "2"), at("b", "2"), forArch(at("a", "2"), api.X8664)},
	} // 0: a 2, 1: b 2, 2: a 2; 3: a 1, 4: a 3, 5: c that provides a, 6: a 4, which does not fit, 7: b 1
	for _, one := range []struct {
		what string
		job  api.Job
		want [][]int
	}{
		{"Install of several", job(api.Install, "a"), [][]int{{1, 3, 4, 5, 6, 7}}},
		{"Install of some versions", api.Job{Kind: api.Install, Dep: ranged("a", api.Greater, "2")}, [][]int{{5, 6, 7}}},
		{"Install of one", job(api.Install, "c"), [][]int{{6}}},
		{"Install of nobody", job(api.Install, "x"), [][]int{{}}},
		{"Erase of several", job(api.Erase, "a"), [][]int{{-1}, {-3}, {-4}, {-5}, {-7}}},
		{"Erase of one", job(api.Erase, "c"), [][]int{{-6}}},
		{"Erase of nobody", job(api.Erase, "x"), nil},
		{"Upgrade of several", job(api.Upgrade, "a"), [][]int{{1, 3, 5, 7}, {1, 3, 5}}},
		{"Upgrade of one", job(api.Upgrade, "b"), [][]int{{2}}},
		{"Upgrade of what is not installed", job(api.Upgrade, "c"), nil},
		{"Upgrade of nobody", job(api.Upgrade, "x"), nil},
		{"Sync of several", job(api.Sync, "a"), [][]int{{4, 5}, {4, 5}}},
		{"Sync of one", job(api.Sync, "b"), [][]int{{8}}},
		{"Sync of what is not installed", job(api.Sync, "c"), nil},
		{"Sync of nobody", job(api.Sync, "x"), nil},
	} {
		wantOf(t, made(t, in, jobs(one.job)), item(api.JobItem, 0), one.want...)
		r := made(t, in, edited(jobs(job(api.Install, "nobody"), job(api.Install, "c"), one.job), edit(api.DropJob, 0)))
		l := r.Items()
		if i := len(l) - 1; l[i] != item(api.JobItem, 2) || !sameLists(r.Clauses(i), one.want) || !sameLists(r.Clauses(i-1), [][]int{{6}}) {
			t.Errorf("%s, behind one that is dropped: %v, %v, want %v", one.what, l, r.Clauses(i), one.want)
		}
	}
}

// P18.1: of several that a Sync means those without newcomers have no clause, the others one each.
func TestNoNewcomers(t *testing.T) {
	strange := at("a", "9")
	strange.Vendor = "v"
	in := input{
		[]api.Repo{repo(strange, forArch(at("b", "9"), api.AArch64), at("c", "1"))},
		[]api.Package{providing(at("a", "1"), named("x")), forArch(at("a", "1"), api.I686), at("b", "1"), at("c", "2")},
	} // 0, 1: a 1, 2: b 1, 3: c 2; 4: a 9 of another vendor, 5: b 9, which does not fit, 6: c 1
	all := jobs(job(api.Sync, "a"), job(api.Sync, "b"), job(api.Sync, "c"))
	r := made(t, in, all)
	wantOf(t, r, item(api.JobItem, 0))
	wantOf(t, r, item(api.JobItem, 1))
	wantOf(t, r, item(api.JobItem, 2), []int{7})
	all.Vendor, all.Arch = true, api.AArch64
	r = made(t, in, all)
	wantOf(t, r, item(api.JobItem, 0), []int{5}, []int{5})
	wantOf(t, r, item(api.JobItem, 1), []int{6})
	over := over(at("d", "1"), ranged("a", api.Less, "2"))
	over.Arch = api.AArch64
	in.repos = append(in.repos, repo(over))
	in.installed[1] = at("a", "2")
	r = made(t, in, jobs(job(api.Sync, "a"))) // 0 alone has a newcomer, if that fits
	wantOf(t, r, item(api.JobItem, 0))
	r = made(t, in, api.Request{Arch: api.AArch64, Jobs: []api.Job{job(api.Sync, "a")}})
	wantOf(t, r, item(api.JobItem, 0), []int{8})
}

// P18.1: what an additional edit makes of the clauses.
func TestEdits(t *testing.T) {
	in := input{[]api.Repo{repo(at("a", "1"), forArch(at("a", "3"), api.I686))}, []api.Package{forArch(at("a", "2"), api.X8664)}}
	keep, first := item(api.KeepItem, 0), item(api.JobItem, 0)
	r := jobs(job(api.Upgrade, "a"))
	for _, one := range []struct {
		edits []api.Edit
		want  []int
	}{
		{nil, []int{1}},
		{[]api.Edit{edit(api.AllowDown, 0)}, []int{1, 2}},
		{[]api.Edit{edit(api.AllowArch, 0)}, []int{1, 3}},
		{[]api.Edit{edit(api.AllowArch, 0), edit(api.AllowDown, 0), edit(api.AllowDown, 0)}, []int{1, 2, 3}},
	} {
		got := made(t, in, edited(r, one.edits...))
		wantOf(t, got, keep, one.want)
		wantOf(t, got, first, one.want)
	}
	got := made(t, in, edited(r, edit(api.AllowErase, 0)))
	if wantOf(t, got, first, []int{1}); slices.Contains(got.Items(), keep) {
		t.Errorf("it may be removed: %v", got.Items())
	}
	got = made(t, in, edited(r, edit(api.DropJob, 0)))
	if wantOf(t, got, keep, []int{1}); slices.Contains(got.Items(), first) {
		t.Errorf("it is dropped: %v", got.Items())
	}
}

// P18.2: the packages that are true, of values that are fewer, as many as, and more than these.
func TestState(t *testing.T) {
	in, request := everything()
	r := made(t, in, request)
	for vars := range r.Vars() + 3 {
		for _, state := range states(min(vars, 7)) {
			values := make([]bool, vars)
			for _, n := range state {
				values[n] = true
			}
			for range 2 {
				if got := r.State(values); !slices.Equal(got, state) {
					t.Errorf("%v: %v, want %v", values, got, state)
				}
				for v := 7; v < vars; v++ {
					values[v] = true
				}
			}
		}
	}
	if got := r.State(nil); len(got) != 0 {
		t.Errorf("of no values: %v", got)
	}
	if got := r.State(slices.Repeat([]bool{true}, 1000)); !slices.Equal(got, numbers(0, 7)) {
		t.Errorf("of many values: %v", got)
	}
}
