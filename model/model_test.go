package model_test

import (
	"slices"
	"strconv"
	"testing"

	"chandlery/api"
	"chandlery/ask"
	"chandlery/model"
)

// P16.1, P16.2: the chapter's example.
func TestExample(t *testing.T) {
	in := input{[]api.Repo{repo(providing(at("b", "1"), named("x")))}, []api.Package{needing(at("a", "1"), "x")}}
	m := made(t, in, jobs())
	need, keep := item(api.NeedItem, 0, 0), item(api.KeepItem, 0)
	wantItems(t, "items", m.Items(), need, keep)
	wantItems(t, "of a", m.Broken([]int{0}), need)
	wantItems(t, "of both", m.Broken([]int{0, 1}))
	wantItems(t, "of b", m.Broken([]int{1}), keep)
	wantItems(t, "of none", m.Broken(nil), keep)
	for _, state := range states(2) {
		if m.Good(state) != (len(state) == 2) {
			t.Errorf("%v: %v", state, m.Good(state))
		}
	}
}

// wantNone asks for a model that has no items, whatever they are.
func wantNone(t *testing.T, what string, m *model.Model) {
	t.Helper()
	wantItems(t, what, m.Items())
	wantItems(t, what, m.Broken(nil))
	wantItems(t, what, m.Broken([]int{0, 1, -1}))
	for kind := range 256 {
		for _, n := range append(absent(0), 1, 2) {
			for _, x := range []api.Item{item(uint8(kind), 0, n), item(uint8(kind), n, 0), item(uint8(kind), n, n+1)} {
				if m.Is(x) {
					t.Errorf("%s: %v is there", what, x)
				}
				if m.Holds(nil, x) != (m != nil) || m.Holds([]int{n, 0, 1}, x) != (m != nil) || m.Kept([]int{0}, []api.Item{x, x}) != (m != nil) {
					t.Errorf("%s: %v", what, x)
				}
			}
		}
	}
	if m.Kept(nil, nil) != (m != nil) || m.Good(nil) != (m != nil) || m.Good([]int{0, -1}) != (m != nil) {
		t.Errorf("%s: %v, %v", what, m.Kept(nil, nil), m.Good(nil))
	}
}

// P16.1, P16.2: an ask of nil, and a model of nil.
func TestNil(t *testing.T) {
	if m, e := model.New(nil); m != nil || e != api.ErrNil {
		t.Errorf("New(nil): %v, %d", m, e)
	}
	if m, e := model.New(new(ask.Ask)); m != nil || e != api.ErrNil {
		t.Errorf("of an ask that has no pool: %v, %d", m, e)
	}
	wantNone(t, "nil", nil)
}

// P16.1, P16.2: a pool of nothing, without jobs, and with jobs that are dropped.
func TestNothing(t *testing.T) {
	wantNone(t, "of no New", new(model.Model))
	drop := edited(jobs(job(api.Install, "a"), job(api.Sync, "a")), edit(api.DropJob, 1), edit(api.DropJob, 0))
	for _, in := range []input{{}, {make([]api.Repo, api.MaxRepos), []api.Package{}}} {
		for _, r := range []api.Request{jobs(), drop, {Arch: api.AArch64, Vendor: true, Jobs: []api.Job{}, Edits: []api.Edit{}}} {
			wantNone(t, "of an empty pool", made(t, in, r))
		}
		m := made(t, in, jobs(job(api.Install, "a"), job(api.Erase, "a"), job(api.Upgrade, "a"), job(api.Sync, "a")))
		wantItems(t, "jobs", m.Items(), item(api.JobItem, 0), item(api.JobItem, 1), item(api.JobItem, 2), item(api.JobItem, 3))
		wantItems(t, "jobs", m.Broken([]int{0, 1}), item(api.JobItem, 0))
	}
}

// everything has items of each Kind: 0 to 2 are installed.
func everything() (input, api.Request) {
	a := needing(forArch(at("a", "2"), api.AArch64), "x", "(b or x)")
	a.Conflicts, a.Obsoletes = read("c", "(b and x)"), []api.Dep{named("b"), named("nobody")}
	a.Recommends, a.Supplements, a.Suggests, a.Enhances = read("c"), read("c", "b"), read("c"), read("c", "b", "x")
	return input{
		[]api.Repo{repo(a, providing(at("c", "1"), named("x"))), repo(forArch(at("a", "1"), api.I686), forArch(at("d", "1"), api.AArch64))},
		[]api.Package{against(forArch(at("a", "1"), api.X8664), "c"), needing(at("b", "1"), "a"), over(at("b", "2"), named("d"))},
	}, edited(jobs(job(api.Install, "c"), job(api.Erase, "d"), job(api.Upgrade, "a")), edit(api.AllowErase, 1), edit(api.DropJob, 1))
}

// P16.1: items of each Kind, in their order: those of packages package by package.
func TestItems(t *testing.T) {
	in, r := everything()
	m := made(t, in, r)
	want := []api.Item{
		item(api.ClashItem, 0, 0),
		item(api.NeedItem, 1, 0),
		item(api.OverItem, 2, 0),
		item(api.ArchItem, 3), item(api.NeedItem, 3, 0), item(api.NeedItem, 3, 1), item(api.ClashItem, 3, 0), item(api.ClashItem, 3, 1), item(api.OverItem, 3, 0), item(api.OverItem, 3, 1),
		item(api.ArchItem, 6),
		item(api.TwinItem, 0, 3), item(api.TwinItem, 1, 2), item(api.TwinItem, 3, 5),
		item(api.KeepItem, 0), item(api.KeepItem, 2),
		item(api.JobItem, 0), item(api.JobItem, 2),
	}
	wantItems(t, "items", m.Items(), want...)
	for kind := range 256 {
		for _, p := range append(absent(7), numbers(0, 7)...) {
			for _, q := range append(absent(7), numbers(0, 7)...) {
				x := item(uint8(kind), p, q)
				if m.Is(x) != slices.Contains(want, x) {
					t.Errorf("%v is there: %v", x, m.Is(x))
				}
			}
		}
	}
}

// P16.1: items that there would be with a number more, or less, or the other way about, or with another request.
func TestIsNot(t *testing.T) {
	in, r := everything()
	m := made(t, in, r)
	for what, x := range map[string]api.Item{
		"an architecture that fits":        item(api.ArchItem, 0),
		"with a Q":                         item(api.ArchItem, 3, 1),
		"a Requires too many":              item(api.NeedItem, 3, 2),
		"a Requires too few":               item(api.NeedItem, 3, -1),
		"a package without Requires":       item(api.NeedItem, 0),
		"a Conflicts too many":             item(api.ClashItem, 3, 2),
		"a package without Conflicts":      item(api.ClashItem, 1),
		"an Obsoletes too many":            item(api.OverItem, 3, 2),
		"a package without Obsoletes":      item(api.OverItem, 1),
		"twins the wrong way about":        item(api.TwinItem, 3, 0),
		"of one name for two machines":     item(api.TwinItem, 0, 5),
		"a package and itself":             item(api.TwinItem, 3, 3),
		"a package and none":               item(api.TwinItem, 3, 7),
		"no twins":                         item(api.TwinItem, 0, 1),
		"an installed one that may go":     item(api.KeepItem, 1),
		"one that is not installed":        item(api.KeepItem, 3),
		"a Q of an installed one":          item(api.KeepItem, 0, 1),
		"a job that is dropped":            item(api.JobItem, 1),
		"a job too many":                   item(api.JobItem, 3),
		"a Q of a job":                     item(api.JobItem, 0, 1),
		"a package too many":               item(api.NeedItem, 7),
		"none":                             {},
		"a Kind too great":                 item(api.JobItem+1, 0),
		"a Kind too small, of an ArchItem": item(0, 3),
		"the greatest Kind":                item(255, 0),
	} {
		if m.Is(x) {
			t.Errorf("%s: %v is there", what, x)
		}
		for _, state := range states(7) {
			if !m.Holds(state, x) || !m.Kept(state, []api.Item{x, x}) {
				t.Errorf("%s: %v does not satisfy %v", what, state, x)
			}
		}
	}
}

// P16.1: an edit that drops a job, an Erase, and an AllowErase, each takes items away; no other edit does.
func TestEdits(t *testing.T) {
	in := input{installed: []api.Package{at("a", "1"), at("b", "1")}}
	of := func(r api.Request) []api.Item { return made(t, in, r).Items() }
	keepA, keepB, first, second := item(api.KeepItem, 0), item(api.KeepItem, 1), item(api.JobItem, 0), item(api.JobItem, 1)
	r := jobs(job(api.Erase, "a"), job(api.Upgrade, "b"))
	wantItems(t, "no job", of(jobs()), keepA, keepB)
	wantItems(t, "an Erase", of(r), keepB, first, second)
	wantItems(t, "an Erase that is dropped", of(edited(r, edit(api.DropJob, 0))), keepA, keepB, second)
	wantItems(t, "the other one is dropped", of(edited(r, edit(api.DropJob, 1), edit(api.DropJob, 1))), keepB, first)
	wantItems(t, "both", of(edited(r, edit(api.DropJob, 1), edit(api.DropJob, 0))), keepA, keepB)
	wantItems(t, "AllowErase", of(edited(r, edit(api.AllowErase, 1))), first, second)
	wantItems(t, "other edits", of(edited(r, edit(api.AllowDown, 1), edit(api.AllowArch, 1))), keepB, first, second)
	wantItems(t, "an Erase of a name that it provides alone", of(jobs(job(api.Erase, "/f"))), keepA, keepB, first)
}

// wantStates asks for just these states, of so many packages, that satisfy an item, however they are written.
func wantStates(t *testing.T, what string, m *model.Model, x api.Item, count int, want func(has func(n int) bool) bool) {
	t.Helper()
	if !m.Is(x) {
		t.Errorf("%s: there is no %v", what, x)
	}
	told := map[bool]int{}
	for _, state := range states(count) {
		yes := want(func(n int) bool { return slices.Contains(state, n) })
		told[yes]++
		for _, same := range alike(state, count) {
			if m.Holds(same, x) != yes || m.Kept(same, []api.Item{x}) != yes || slices.Contains(m.Broken(same), x) == yes {
				t.Errorf("%s: %v: want %v", what, same, yes)
			}
		}
	}
	if told[false] == 0 || told[true] == 0 {
		t.Errorf("%s: %v", what, told)
	}
}

// P16.2: which states satisfy an ArchItem, a NeedItem and a ClashItem.
func TestNeeds(t *testing.T) {
	b := providing(at("b", "1"), named("x"))
	b.Conflicts = read("x", "(x and c)", "nobody", "(y unless c)")
	in := input{[]api.Repo{repo(needing(forArch(at("a", "1"), api.I686), "x", "(x and y)", "nobody", "(c if x)", "a")), repo(b)}, []api.Package{providing(at("c", "1"), named("x"), named("y"))}}
	m := made(t, in, api.Request{Arch: api.AArch64}) // 0: c provides x and y; 1: a; 2: b provides x
	for _, c := range []struct {
		what string
		x    api.Item
		want func(has func(n int) bool) bool
	}{
		{"a does not fit", item(api.ArchItem, 1), func(has func(int) bool) bool { return !has(1) }},
		{"a requires x", item(api.NeedItem, 1, 0), func(has func(int) bool) bool { return !has(1) || has(0) || has(2) }},
		{"a requires x and y", item(api.NeedItem, 1, 1), func(has func(int) bool) bool { return !has(1) || has(0) }},
		{"a requires nobody", item(api.NeedItem, 1, 2), func(has func(int) bool) bool { return !has(1) }},
		{"a requires c if x", item(api.NeedItem, 1, 3), func(has func(int) bool) bool { return !has(1) || has(0) || !has(2) }},
		{"b conflicts with x, which it provides", item(api.ClashItem, 2, 0), func(has func(int) bool) bool { return !has(2) || !has(0) }},
		{"b conflicts with x and c", item(api.ClashItem, 2, 1), func(has func(int) bool) bool { return !has(2) || !has(0) }},
	} {
		wantStates(t, c.what, m, c.x, 3, c.want)
	}
	for _, x := range []api.Item{item(api.NeedItem, 1, 4), item(api.ClashItem, 2, 2), item(api.ClashItem, 2, 3)} {
		for _, state := range states(3) {
			if !m.Is(x) || !m.Holds(state, x) {
				t.Errorf("%v does not satisfy %v", state, x)
			}
		}
	}
}

// P16.2: which states satisfy an OverItem: what is named by its own name alone counts, and no package stands in its own way.
func TestOver(t *testing.T) {
	in := input{[]api.Repo{
		repo(over(at("a", "1"), named("a"), named("b"), ranged("b", api.Less, "2"), named("x"))),
		repo(at("a", "2"), at("b", "1"), providing(at("c", "1"), named("b"), named("x"))),
	}, []api.Package{at("b", "2")}}
	m := made(t, in, jobs()) // 0: b 2; 1: a that obsoletes; 2: a 2, 3: b 1, 4: c provides b and x
	wantStates(t, "a", m, item(api.OverItem, 1, 0), 5, func(has func(int) bool) bool { return !has(1) || !has(2) })
	wantStates(t, "b", m, item(api.OverItem, 1, 1), 5, func(has func(int) bool) bool { return !has(1) || !has(0) && !has(3) })
	wantStates(t, "b < 2", m, item(api.OverItem, 1, 2), 5, func(has func(int) bool) bool { return !has(1) || !has(3) })
	for _, state := range states(5) {
		if x := item(api.OverItem, 1, 3); !m.Is(x) || !m.Holds(state, x) {
			t.Errorf("%v has what is named x", state)
		}
	}
}

// P16.2: which states satisfy a TwinItem.
func TestTwins(t *testing.T) {
	in := input{[]api.Repo{repo(at("a", "2"), at("b", "1"))}, []api.Package{at("a", "1"), at("a", "1")}}
	m := made(t, in, jobs())
	wantItems(t, "items", m.Items(), item(api.TwinItem, 0, 1), item(api.TwinItem, 0, 2), item(api.TwinItem, 1, 2), item(api.KeepItem, 0), item(api.KeepItem, 1))
	for _, x := range m.Items()[:3] {
		wantStates(t, "twins", m, x, 4, func(has func(int) bool) bool { return !has(x.P) || !has(x.Q) })
	}
}

// P16.2: which states satisfy a KeepItem: those that have a successor, whose architecture need not fit.
func TestKeep(t *testing.T) {
	in := input{[]api.Repo{repo(at("a", "1"), at("a", "3"), over(forArch(at("c", "1"), api.AArch64), named("a")))}, []api.Package{at("a", "2"), at("b", "1")}}
	x, y := item(api.KeepItem, 0), item(api.KeepItem, 1)
	m := made(t, in, jobs()) // 0: a 2, 1: b; 2: a 1, 3: a 3, 4: c that obsoletes a
	wantStates(t, "a", m, x, 5, func(has func(int) bool) bool { return has(0) || has(3) || has(4) })
	wantStates(t, "b", m, y, 5, func(has func(int) bool) bool { return has(1) })
	m = made(t, in, edited(jobs(job(api.Erase, "b")), edit(api.AllowDown, 0)))
	wantStates(t, "a, which may be downgraded", m, x, 5, func(has func(int) bool) bool { return has(0) || has(2) || has(3) || has(4) })
	for _, state := range states(5) {
		if m.Is(y) || !m.Holds(state, y) {
			t.Errorf("%v does not keep b, which may go", state)
		}
	}
}

// P16.2: which states satisfy a JobItem of each Kind, whichever job it is.
func TestJobs(t *testing.T) {
	in := input{[]api.Repo{repo(at("a", "1"), at("a", "3"), providing(at("c", "1"), named("a")))}, []api.Package{at("a", "2"), at("b", "1")}}
	m := made(t, in, jobs(job(api.Install, "a"), job(api.Erase, "a"), job(api.Install, "b"), job(api.Upgrade, "a")))
	wantStates(t, "Install a", m, item(api.JobItem, 0), 5, func(has func(int) bool) bool { return has(0) || has(2) || has(3) || has(4) })
	wantStates(t, "Erase a", m, item(api.JobItem, 1), 5, func(has func(int) bool) bool { return !has(0) && !has(2) && !has(3) })
	wantStates(t, "Install b", m, item(api.JobItem, 2), 5, func(has func(int) bool) bool { return has(1) })
	wantStates(t, "Upgrade a", m, item(api.JobItem, 3), 5, func(has func(int) bool) bool { return has(0) || has(3) })
	m = made(t, in, edited(jobs(job(api.Install, "b"), job(api.Sync, "a")), edit(api.DropJob, 0)))
	wantStates(t, "Sync a", m, item(api.JobItem, 1), 5, func(has func(int) bool) bool { return has(2) || has(3) })
	for _, state := range states(5) {
		if x := item(api.JobItem, 0); m.Is(x) || !m.Holds(state, x) {
			t.Errorf("%v does not fulfil a job that is dropped", state)
		}
	}
}

// P16.2: Kept and Broken of items that stand twice, in any order, and that do not exist.
func TestKept(t *testing.T) {
	in, r := everything()
	m := made(t, in, r)
	all := m.Items()
	wantItems(t, "of 3 and 6", m.Broken([]int{6, 3}), item(api.ArchItem, 3), item(api.NeedItem, 3, 0), item(api.NeedItem, 3, 1), item(api.ArchItem, 6), item(api.KeepItem, 0), item(api.JobItem, 0), item(api.JobItem, 2))
	wantItems(t, "of 0 to 2", m.Broken(numbers(0, 3)), item(api.TwinItem, 1, 2), item(api.JobItem, 0))
	state := []int{0, 1, 2}
	none := []api.Item{{}, item(api.KeepItem, 1), item(api.JobItem, 77), item(200, 0, 0)}
	fine := slices.DeleteFunc(slices.Clone(all), func(x api.Item) bool { return slices.Contains(m.Broken(state), x) })
	if !m.Kept(state, nil) || !m.Kept(state, []api.Item{}) || !m.Kept(state, none) || !m.Kept(state, slices.Concat(fine, none, fine)) {
		t.Errorf("%v: what it satisfies", state)
	}
	for _, x := range m.Broken(state) {
		if m.Kept(state, []api.Item{x}) || m.Kept(state, slices.Concat(fine, []api.Item{x})) || m.Kept(state, slices.Concat([]api.Item{x}, none, fine)) {
			t.Errorf("%v: %v among others", state, x)
		}
	}
}

// P16.1, P16.2: as many packages as there may be, with as many dependencies, and as many jobs.
func TestGreat(t *testing.T) {
	one := forArch(over(at("p", "1"), slices.Repeat([]api.Dep{named("q")}, api.MaxDeps)...), api.X8664)
	one.Requires = slices.Repeat(read("(p and p)"), api.MaxDeps)
	one.Conflicts = slices.Repeat(read("(p without p)"), api.MaxDeps)
	var l []api.Package
	for n := range api.MaxPackages {
		p := one
		p.EVR.Ver = strconv.Itoa(n)
		l = append(l, p)
	}
	last := &l[api.MaxPackages-1]
	last.Name, last.Conflicts = "q", read("p")
	const half = api.MaxPackages / 2
	in := input{[]api.Repo{repo(l[half:]...)}, l[:half]}
	r := api.Request{Arch: api.AArch64, Jobs: slices.Repeat([]api.Job{job(api.Install, "q")}, api.MaxJobs)}
	m := made(t, in, r)
	items := m.Items()
	wantItems(t, "as many as there may be", items, wordsOf(in, r).items()...)
	most := api.MaxPackages*(1+3*api.MaxDeps) - (api.MaxDeps - 1) + (api.MaxPackages-1)*(api.MaxPackages-2)/2 + half + api.MaxJobs
	if len(items) != most {
		t.Errorf("%d items, want %d", len(items), most)
	}
	full := numbers(0, api.MaxPackages)
	broken := m.Broken(slices.Repeat(append(absent(api.MaxPackages), full...), 1000))
	kinds := map[uint8]int{}
	for _, x := range broken {
		kinds[x.Kind]++
		if !m.Is(x) {
			t.Fatalf("%v is not there", x)
		}
	}
	for kind, want := range map[uint8]int{api.ArchItem: api.MaxPackages, api.NeedItem: 0, api.ClashItem: 1, api.OverItem: (api.MaxPackages - 1) * api.MaxDeps, api.TwinItem: (api.MaxPackages - 1) * (api.MaxPackages - 2) / 2, api.KeepItem: 0, api.JobItem: 0} {
		if kinds[kind] != want {
			t.Errorf("%d broken items of Kind %d, want %d", kinds[kind], kind, want)
		}
	}
	if m.Good(full) || m.Kept(full, broken[:1]) || !m.Kept(full, nil) || m.Kept(nil, items) {
		t.Error("of great states")
	}
}
