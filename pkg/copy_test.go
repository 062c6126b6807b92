package pkg_test

import (
	"reflect"
	"slices"
	"testing"

	"chandlery/api"
	"chandlery/pkg"
	"chandlery/shape"
)

// allBy are the rich dependencies of a package, found by other means than the program's.
func allBy(p api.Package) []api.Rich {
	return slices.Concat(p.Requires, p.Conflicts, p.Recommends, p.Supplements, p.Suggests, p.Enhances)
}

// sameBy says whether two packages are the same, found by other means than the program's.
func sameBy(a, b api.Package) bool { return reflect.DeepEqual(emptied(a), emptied(b)) }

// wantAll asks for a package's rich dependencies.
func wantAll(t *testing.T, p api.Package) {
	t.Helper()
	if got := pkg.All(p); !slices.EqualFunc(got, allBy(p), shape.Same) {
		t.Errorf("All(%v): %v", p, got)
	}
}

// P10.2: the rich dependencies, list after list, in the order of Requires, Conflicts, Recommends, Supplements, Suggests, Enhances.
func TestAll(t *testing.T) {
	if all := pkg.All(plain()); len(all) != 0 {
		t.Errorf("All of a package without any: %v", all)
	}
	p := plain()
	p.Requires = []api.Rich{atom("r"), of(api.If, atom("r1"), atom("r2"))}
	p.Conflicts = []api.Rich{atom("c"), atom("a")}
	p.Recommends = []api.Rich{atom("m"), atom("m")}
	p.Supplements = []api.Rich{atom("s")}
	p.Suggests = []api.Rich{atom("g"), {}, atom("r")}
	p.Enhances = []api.Rich{{Kind: 99, Dep: named("e"), Args: []api.Rich{atom("e1")}}}
	want := []api.Rich{atom("r"), of(api.If, atom("r1"), atom("r2")), atom("c"), atom("a"), atom("m"), atom("m"), atom("s"), atom("g"), {}, atom("r"), {Kind: 99, Dep: named("e"), Args: []api.Rich{atom("e1")}}}
	if got := pkg.All(p); !slices.EqualFunc(got, want, shape.Same) {
		t.Errorf("All: %v", got)
	}
	for _, list := range richLists { // each list alone, and all but that one
		only, without := plain(), copied(p)
		*list.of(&only), *list.of(&without) = *list.of(&p), nil
		wantAll(t, only)
		wantAll(t, without)
		wantAll(t, emptied(only))
	}
	for _, p := range some() {
		wantAll(t, p)
	}
	eachAny(5000, func(p api.Package) { wantAll(t, p) })
}

// wantSame asks for whether two packages are the same, one way round and the other.
func wantSame(t *testing.T, what string, a, b api.Package, want bool) {
	t.Helper()
	if pkg.Same(a, b) != want || pkg.Same(b, a) != want {
		t.Errorf("%s: Same(%v, %v): %v, %v", what, a, b, pkg.Same(a, b), pkg.Same(b, a))
	}
}

// P10.2: each is the same as itself; a list that there is not is the same as an empty one.
func TestSame(t *testing.T) {
	for i, p := range some() {
		wantSame(t, "itself", p, p, true)
		wantSame(t, "a copy", p, copied(p), true)
		wantSame(t, "with empty lists", p, emptied(p), true)
		wantSame(t, "with empty lists, both", emptied(p), emptied(copied(p)), true)
		for j, q := range some() {
			wantSame(t, "another one", p, q, i == j)
		}
	}
}

// P10.2: packages that differ in one part alone are not the same, whichever part it is.
func TestSameOfUnlike(t *testing.T) {
	parts := map[string]int{}
	for _, p := range small() {
		eachAltered(p, func(name string, other api.Package) {
			wantSame(t, name, p, other, false)
			wantSame(t, name, other, pkg.Copy(other), true)
			parts[name]++
		})
	}
	for _, name := range []string{".Name", ".EVR.Epoch", ".EVR.Ver", ".EVR.Rel", ".Arch", ".Vendor", ".Provides", ".Provides[1].EVR.Ver", ".Requires[1].Args[0].Dep.Name", ".Conflicts[1].Kind", ".Obsoletes[0].Op", ".Recommends[0].Args", ".Supplements", ".Suggests[1].Dep.EVR.Rel", ".Enhances[0].Args[1].Dep.Op", ".Files[2]"} {
		if parts[name] == 0 {
			t.Errorf("%s has not been altered", name)
		}
	}
}

// P10.2: what compares the same, is provided all the same, or stands in another list, is not the same.
func TestSameOfAlike(t *testing.T) {
	p := ordinary()
	for _, change := range []func(*api.Package){
		func(p *api.Package) { p.EVR.Ver = "9_1" },
		func(p *api.Package) { p.EVR.Rel = "03" },
		func(p *api.Package) { p.Provides[1].EVR.Ver = "09" },
		func(p *api.Package) { p.Provides[0].Op = 8 },
		func(p *api.Package) { p.Provides[0].EVR.Epoch = 1 },
		func(p *api.Package) { slices.Reverse(p.Provides) },
		func(p *api.Package) { slices.Reverse(p.Files) },
		func(p *api.Package) { p.Files = append(p.Files, p.Files[2]) },
		func(p *api.Package) { slices.Reverse(p.Requires) },
		func(p *api.Package) { slices.Reverse(p.Recommends[0].Args) },
		func(p *api.Package) { p.Provides, p.Obsoletes = p.Obsoletes, p.Provides },
		func(p *api.Package) { p.Name, p.Vendor = p.Vendor, p.Name },
		func(p *api.Package) { p.EVR.Ver, p.EVR.Rel = p.EVR.Rel, p.EVR.Ver },
	} {
		other := ordinary()
		change(&other)
		wantSame(t, "alike", p, other, false)
	}
	for i, list := range richLists {
		for _, with := range richLists[:i] {
			other := ordinary()
			*list.of(&other), *with.of(&other) = *with.of(&other), *list.of(&other)
			wantSame(t, list.name+" and "+with.name, p, other, false)
			wantMay(t, "what Same tells does not hang on being valid", p, true)
		}
	}
}

// P10.2: held against what is found by other means, for many packages.
func TestSameAny(t *testing.T) {
	var d dice
	n := map[bool]int{}
	eachAny(5000, func(p api.Package) {
		other := d.spoil(p)
		want := sameBy(p, other)
		n[want]++
		wantSame(t, "spoilt", p, other, want)
		wantSame(t, "a copy", p, emptied(p), true)
	})
	if n[true] < 100 || n[false] < 3000 {
		t.Errorf("%v: too few", n)
	}
}

// P10.2: a copy is the same; it may be changed anywhere, and the other stays, and the other way round.
func TestCopy(t *testing.T) {
	check := func(p api.Package) {
		before := copied(p)
		first := pkg.Copy(p)
		if !sameBy(first, before) || !pkg.Same(first, p) {
			t.Errorf("Copy(%v): %v", p, first)
		}
		second := pkg.Copy(first)
		overwrite(reflect.ValueOf(&first).Elem())
		if !reflect.DeepEqual(p, before) || !sameBy(second, before) || pkg.Same(first, p) {
			t.Errorf("changed with its copy: %v, %v, want %v", p, second, before)
		}
		third := copied(p)
		fourth := pkg.Copy(third)
		overwrite(reflect.ValueOf(&third).Elem())
		if !sameBy(fourth, before) {
			t.Errorf("a copy changed with what it is of: %v, want %v", fourth, before)
		}
	}
	for _, p := range some() {
		check(p)
		check(emptied(p))
	}
	eachAny(2000, check)
}

// P10.2: a copy that is changed in one part alone, where it lies, is no longer the same, and what it is of stays.
func TestCopyChanged(t *testing.T) {
	for _, p := range small() {
		before, c := copied(p), pkg.Copy(p)
		alter("", reflect.ValueOf(&c).Elem(), func(name string) {
			if pkg.Same(p, c) || !reflect.DeepEqual(p, before) {
				t.Errorf("%s changed in a copy: %v, %v", name, p, c)
			}
		})
		wantSame(t, "changed back", p, c, true)
	}
}

// ask calls all functions with these arguments, and overwrites the answers.
func ask(p, q api.Package, d api.Dep) {
	pkg.May(p)
	pkg.Provides(p, d)
	pkg.Named(p, d)
	pkg.Obsoletes(p, q)
	pkg.Same(p, q)
	own, all, c := pkg.Own(p), pkg.All(p), pkg.Copy(p)
	overwrite(reflect.ValueOf(&own).Elem())
	overwrite(reflect.ValueOf(&all).Elem())
	overwrite(reflect.ValueOf(&c).Elem())
}

// roomy is a copy of a list with memory behind its end, in which something stands.
func roomy[T any](l []T, behind ...T) []T { return append(slices.Clone(l), behind...)[:len(l)] }

// R1: what is handed in stays, and so does what stands behind its lists.
func TestArgumentsStay(t *testing.T) {
	for _, p := range some() {
		for _, q := range some() {
			before, other := copied(p), copied(q)
			ask(p, q, named("/z"))
			if !reflect.DeepEqual(p, before) || !reflect.DeepEqual(q, other) {
				t.Errorf("%v or %v has changed", p, q)
			}
		}
	}
	eachAny(1000, func(p api.Package) {
		for _, list := range depLists {
			*list.of(&p) = roomy(*list.of(&p), named("behind"), named("/behind"))
		}
		for _, list := range richLists {
			*list.of(&p) = roomy(*list.of(&p), atom("behind"), of(api.And, atom("far"), atom("behind")))
		}
		p.Files = roomy(p.Files, "/behind", "/a")
		before := copied(p)
		ask(p, p, named("/behind"))
		if !reflect.DeepEqual(p, before) || pkg.Provides(p, named("behind")) || pkg.Provides(p, named("/behind")) || pkg.Obsoletes(p, api.Package{Name: "behind"}) {
			t.Errorf("%v has changed, from %v", p, before)
		}
		whole := p.Files[:len(p.Files)+2]
		if whole[len(p.Files)] != "/behind" || whole[len(p.Files)+1] != "/a" {
			t.Errorf("behind the Files: %q", whole)
		}
		for _, list := range richLists {
			l := *list.of(&p)
			if whole := l[:len(l)+2]; whole[len(l)].Dep.Name != "behind" || len(whole[len(l)+1].Args) != 2 {
				t.Errorf("behind the %s: %v", list.name, whole)
			}
		}
		for _, list := range depLists {
			l := *list.of(&p)
			if whole := l[:len(l)+2]; whole[len(l)] != named("behind") || whole[len(l)+1] != named("/behind") {
				t.Errorf("behind the %s: %v", list.name, whole)
			}
		}
	})
}

// wantApart asks for answers whose texts have no bytes in common memory.
func wantApart(t *testing.T, what string, a, b any) {
	t.Helper()
	for _, s := range textsIn(reflect.ValueOf(a)) {
		for _, u := range textsIn(reflect.ValueOf(b)) {
			if shared(s, u) {
				t.Errorf("%s: %q shares memory with %q", what, s, u)
			}
		}
	}
}

// R1: answers share no memory with what is handed in, nor with one another.
func TestAnswersAreNew(t *testing.T) {
	l := small()
	var d dice
	for range 100 {
		l = append(l, d.pkg())
	}
	for _, p := range l {
		before := copied(p)
		own, all, c := pkg.Own(p), pkg.All(p), pkg.Copy(p)
		ownToo, allToo, cToo := pkg.Own(p), pkg.All(p), pkg.Copy(p)
		wantApart(t, "Own", own, p)
		wantApart(t, "Own twice", own, ownToo)
		wantApart(t, "All", all, p)
		wantApart(t, "All twice", all, allToo)
		wantApart(t, "Copy", c, p)
		wantApart(t, "Copy twice", c, cToo)
		overwrite(reflect.ValueOf(&own).Elem())
		overwrite(reflect.ValueOf(&all).Elem())
		overwrite(reflect.ValueOf(&c).Elem())
		if !slices.EqualFunc(allToo, allBy(before), shape.Same) || !sameBy(cToo, before) || !reflect.DeepEqual(p, before) {
			t.Errorf("another answer has changed: %v, %v, want %v", allToo, cToo, before)
		}
	}
}

// R1: no two lists of one answer share memory, though those that were handed in do.
func TestListsAreApart(t *testing.T) {
	p := plain()
	rich := []api.Rich{atom("b"), of(api.And, atom("c"), atom("d"))}
	for _, list := range richLists {
		*list.of(&p) = rich
	}
	p.Provides = []api.Dep{named("b"), named("c")}
	p.Obsoletes = p.Provides
	c, before := pkg.Copy(p), copied(p)
	c.Requires[1].Args[0] = atom("changed")
	c.Requires[0] = atom("changed")
	c.Provides[0] = named("changed")
	c.Suggests = append(c.Suggests, atom("behind"))
	before.Requires = []api.Rich{atom("changed"), of(api.And, atom("changed"), atom("d"))}
	before.Provides[0] = named("changed")
	before.Suggests = append(before.Suggests, atom("behind"))
	if !sameBy(c, before) {
		t.Errorf("a copy has two lists in one memory: %v, want %v", c, before)
	}
	all := pkg.All(p)
	all[1].Args[0] = atom("changed")
	for i := 3; i < len(all); i += 2 {
		if !shape.Same(all[i], rich[1]) {
			t.Errorf("All has two lists in one memory: %v", all)
		}
	}
}

// Limits: rich dependencies that are very deep, and lists that are very long, though they are far from valid.
func TestCopyOfLarge(t *testing.T) {
	const levels = 1<<16 - 1
	nested := func(name string) api.Rich {
		deep := atom(name)
		for range levels {
			deep = of(api.And, deep, atom("c"))
		}
		return deep
	}
	for _, list := range richLists {
		p, q := plain(), plain()
		*list.of(&p), *list.of(&q) = []api.Rich{nested("b")}, []api.Rich{nested("d")}
		c := pkg.Copy(p)
		if !pkg.Same(c, p) || pkg.Same(c, q) || len(pkg.All(p)) != 1 || !shape.Same(pkg.All(p)[0], (*list.of(&c))[0]) {
			t.Errorf("very deep %s", list.name)
		}
		*list.of(&p) = slices.Repeat([]api.Rich{atom("b")}, 1<<17)
		c = pkg.Copy(p)
		if !pkg.Same(c, p) || len(pkg.All(p)) != 1<<17 {
			t.Errorf("very many %s", list.name)
		}
		(*list.of(&c))[1<<17-1] = atom("c")
		if pkg.Same(c, p) {
			t.Errorf("very many %s, the last one unlike", list.name)
		}
	}
}
