package match_test

import (
	"slices"
	"strconv"
	"testing"

	"chandlery/api"
	"chandlery/match"
	"chandlery/pkg"
	"chandlery/pool"
)

// text tells a dependency, be it valid or not.
func text(d api.Dep) string {
	return strconv.Quote(d.Name) + " " + strconv.Itoa(int(d.Op)) + " " + strconv.Itoa(d.EVR.Epoch) + ":" + d.EVR.Ver + "-" + d.EVR.Rel
}

// wantTold asks for the numbers that provide a dependency, and for those that are named by it.
func wantTold(t *testing.T, x *match.Index, d api.Dep, providers, named []int) {
	t.Helper()
	wantList(t, "Providers of "+text(d), x.Providers(d), providers)
	wantList(t, "Named of "+text(d), x.Named(d), named)
}

// wantOver asks for the numbers that each package obsoletes, and for the inverse.
func wantOver(t *testing.T, x *match.Index, count int, obsoleted map[int][]int) {
	t.Helper()
	obsoleters := map[int][]int{}
	for n := range count {
		wantList(t, "Obsoleted("+strconv.Itoa(n)+")", x.Obsoleted(n), obsoleted[n])
		for _, m := range obsoleted[n] {
			obsoleters[m] = append(obsoleters[m], n)
		}
	}
	for n := range count {
		wantList(t, "Obsoleters("+strconv.Itoa(n)+")", x.Obsoleters(n), obsoleters[n])
	}
}

// P13.1: the chapter's example, whether the packages are installed or of repositories.
func TestExample(t *testing.T) {
	b := providing(over(at("b", "1"), ranged("a", api.Less, "2")), ranged("a", api.Equal, "2"))
	for _, in := range spread(at("a", "1"), b, filed(at("c", "1"), "/f")) {
		x, _ := made(t, in)
		wantTold(t, x, named("a"), []int{0, 1}, []int{0})
		wantTold(t, x, ranged("a", api.Greater, "1"), []int{1}, nil)
		wantTold(t, x, ranged("a", api.Greater|api.Equal, "1"), []int{0, 1}, []int{0})
		wantTold(t, x, named("/f"), []int{2}, nil)
		wantOver(t, x, 3, map[int][]int{1: {0}})
		wantIndex(t, "example", x, in.all())
	}
}

// P13.1: no pool, and an index of nil, or one that New has not made.
func TestNil(t *testing.T) {
	if x, e := match.New(nil); x != nil || e != api.ErrNil {
		t.Errorf("New(nil): %v, %d", x, e)
	}
	for what, x := range map[string]*match.Index{"nil": nil, "of no New": new(match.Index)} {
		for _, d := range append(asked([]api.Package{at("a", "1")}), named("a"), named("/a")) {
			wantList(t, what+": Providers", x.Providers(d), nil)
			wantList(t, what+": Named", x.Named(d), nil)
		}
		for _, n := range append(absent(0), 0, 1, 255) {
			wantList(t, what+": Obsoleted", x.Obsoleted(n), nil)
			wantList(t, what+": Obsoleters", x.Obsoleters(n), nil)
		}
	}
}

// P13.1: a pool of nothing has an index, which tells nothing.
func TestNothing(t *testing.T) {
	for _, in := range []input{{}, {repos: []api.Repo{{}}}, {repos: make([]api.Repo, api.MaxRepos), installed: []api.Package{}}} {
		x, _ := made(t, in)
		wantIndex(t, "nothing", x, nil)
		wantTold(t, x, named("a"), nil, nil)
	}
	if x, e := match.New(new(pool.Pool)); x == nil || e != api.OK {
		t.Errorf("New: %v, %d", x, e)
	} else {
		wantIndex(t, "a pool of no New", x, nil)
	}
}

// P13.1: each Op, and none, of a name that packages have, and that others provide, in all sorts of versions.
func TestOps(t *testing.T) {
	l := []api.Package{
		at("a", "1"), at("a", "2"), at("a", "3"),
		providing(at("b", "2"), ranged("a", api.Equal, "2.5")),
		providing(at("c", "2"), named("a")),
		providing(at("d", "2"), ranged("a", api.Less, "2")),
		providing(at("e", "2"), ranged("a", api.Greater|api.Equal, "2")),
		providing(at("f", "2"), ranged("ab", api.Equal, "2"), ranged("A", api.Equal, "2")),
		at("ab", "2"),
	}
	want := map[uint8][2][]int{
		api.Any:                 {{0, 1, 2, 3, 4, 5, 6}, {0, 1, 2}},
		api.Less:                {{0, 4, 5}, {0}},
		api.Equal:               {{1, 4, 6}, {1}},
		api.Greater:             {{2, 3, 4, 6}, {2}},
		api.Less | api.Equal:    {{0, 1, 4, 5, 6}, {0, 1}},
		api.Greater | api.Equal: {{1, 2, 3, 4, 6}, {1, 2}},
	}
	for _, in := range spread(l...) {
		x, _ := made(t, in)
		for op, told := range want {
			d := ranged("a", op, "2")
			if op == api.Any {
				d = named("a")
			}
			wantTold(t, x, d, told[0], told[1])
		}
		wantTold(t, x, ranged("ab", api.Equal, "2"), []int{7, 8}, []int{8})
		wantTold(t, x, ranged("A", api.Less|api.Equal, "2"), []int{7}, nil)
		wantIndex(t, "each Op", x, l)
	}
}

// P13.1: a release counts where the dependency has one, and an epoch always.
func TestReleases(t *testing.T) {
	l := []api.Package{at("a", "1"), at("a", "1"), at("a", "1"), providing(at("b", "1"), api.Dep{Name: "a", Op: api.Equal, EVR: api.EVR{Ver: "1"}})}
	l[1].EVR.Rel, l[2].EVR.Epoch = "2", 1
	x, _ := made(t, input{installed: l})
	for _, c := range []struct {
		op               uint8
		e                api.EVR
		providers, named []int
	}{
		{api.Equal, api.EVR{Ver: "1"}, []int{0, 1, 3}, []int{0, 1}},
		{api.Equal, api.EVR{Ver: "1", Rel: "1"}, []int{0, 3}, []int{0}},
		{api.Equal, api.EVR{Ver: "1", Rel: "3"}, []int{3}, nil},
		{api.Greater, api.EVR{Ver: "1", Rel: "1"}, []int{1, 2}, []int{1, 2}},
		{api.Less, api.EVR{Epoch: 1, Ver: "0"}, []int{0, 1, 3}, []int{0, 1}},
		{api.Equal, api.EVR{Epoch: 1, Ver: "1"}, []int{2}, []int{2}},
		{api.Less | api.Equal, api.EVR{Ver: "01.", Rel: "2"}, []int{0, 1, 3}, []int{0, 1}},
	} {
		wantTold(t, x, api.Dep{Name: "a", Op: c.op, EVR: c.e}, c.providers, c.named)
	}
}

// P13.1: files are provided in any version, and under no other Op; who provides the name of a file as a dependency does so under each.
func TestFiles(t *testing.T) {
	l := []api.Package{
		filed(at("a", "1"), "/a", "/a/b", "/b"),
		filed(at("b", "1"), "/b"),
		providing(at("c", "1"), named("/b"), named("/c")),
		filed(providing(at("d", "1"), named("/b"), named("a")), "/", "/b"),
	}
	for _, in := range spread(l...) {
		x, _ := made(t, in)
		for file, told := range map[string][2][]int{
			"/": {{3}}, "/a": {{0}}, "/a/b": {{0}}, "/b": {{0, 1, 2, 3}, {2, 3}}, "/c": {{2}, {2}},
			"/d": {}, "//": {}, "/a/": {}, "/B": {}, "a/b": {}, "": {},
		} {
			wantTold(t, x, named(file), told[0], nil)
			for _, op := range append(ops[1:], 7, 8, 128, 255) {
				wantTold(t, x, ranged(file, op, "1"), told[1], nil)
			}
		}
		wantTold(t, x, named("a"), []int{0, 3}, []int{0})
		wantTold(t, x, named("b"), []int{1}, []int{1})
		wantIndex(t, "files", x, l)
	}
}

// P13.1: dependencies that may not be.
func TestInvalid(t *testing.T) {
	l := []api.Package{at("a", "1"), at("a", "3"), providing(at("b", "2"), named("a")), filed(at("c", "2"), "/a"), providing(at("d", "2"), ranged("a", api.Equal, "2"))}
	x, _ := made(t, input{repos: []api.Repo{repo(l[2:]...)}, installed: l[:2]})
	both := ranged("a", api.Less|api.Greater, "2")
	wantTold(t, x, both, []int{0, 1, 2}, []int{0, 1})
	wantTold(t, x, ranged("a", 7, "2"), []int{0, 1, 2, 4}, []int{0, 1})
	wantTold(t, x, ranged("a", 8, "2"), []int{0, 1, 2, 4}, []int{0, 1})
	wantTold(t, x, ranged("a", 8|api.Greater, "2"), []int{1, 2}, []int{1})
	wantTold(t, x, api.Dep{Name: "a", EVR: api.EVR{Epoch: 9, Ver: "9"}}, []int{0, 1, 2, 4}, []int{0, 1})
	wantTold(t, x, ranged("/a", 8, ""), nil, nil)
	wantTold(t, x, api.Dep{}, nil, nil)
	for op := range 256 {
		for _, ver := range []string{"", "1", "2", "3", "~"} {
			for _, name := range []string{"a", "/a", "e"} {
				d := ranged(name, uint8(op), ver)
				wantTold(t, x, d, those(5, func(n int) bool { return provides(l[n], d) }), those(5, func(n int) bool { return names(d, l[n]) }))
			}
		}
	}
	wantIndex(t, "ones that may not be", x, l)
}

// P13.1: several packages of one name, in the same version and in others, over installed ones and repositories.
func TestOneName(t *testing.T) {
	in := input{
		repos:     []api.Repo{repo(at("b", "1"), at("a", "2"), at("a", "2")), {}, repo(at("a", "1"), at("c", "1"), at("b", "2"))},
		installed: []api.Package{at("a", "3"), at("b", "1"), at("a", "1")},
	}
	x, _ := made(t, in)
	for name, want := range map[string][]int{"a": {0, 2, 4, 5, 6}, "b": {1, 3, 8}, "c": {7}, "d": nil, "": nil} {
		wantTold(t, x, named(name), want, want)
	}
	wantTold(t, x, ranged("a", api.Equal, "2"), []int{4, 5}, []int{4, 5})
	wantTold(t, x, ranged("a", api.Less, "3"), []int{2, 4, 5, 6}, []int{2, 4, 5, 6})
	wantTold(t, x, ranged("b", api.Greater, "1"), []int{8}, []int{8})
	wantTold(t, x, ranged("c", api.Greater, "1"), nil, nil)
	wantIndex(t, "one name", x, in.all())
}

// P13.1: a package that provides a name more than once, its own in another version among them, is told once.
func TestManyTimes(t *testing.T) {
	l := []api.Package{
		providing(at("b", "1"), named("a"), ranged("a", api.Equal, "1"), ranged("a", api.Equal, "2"), named("a")),
		providing(at("a", "1"), ranged("a", api.Equal, "2"), named("c"), ranged("a", api.Equal, "4")),
		filed(providing(at("c", "1"), named("/f"), named("/f"), ranged("a", api.Greater, "4")), "/f", "/g"),
		providing(at("a", "3"), named("a"), ranged("a", api.Equal, "3")),
	}
	for _, in := range spread(l...) {
		x, _ := made(t, in)
		wantTold(t, x, named("a"), []int{0, 1, 2, 3}, []int{1, 3})
		wantTold(t, x, ranged("a", api.Equal, "1"), []int{0, 1, 3}, []int{1})
		wantTold(t, x, ranged("a", api.Equal, "4"), []int{0, 1, 3}, nil)
		wantTold(t, x, ranged("a", api.Less, "3"), []int{0, 1, 3}, []int{1})
		wantTold(t, x, ranged("a", api.Greater, "5"), []int{0, 2, 3}, nil)
		wantTold(t, x, named("/f"), []int{2}, nil)
		wantTold(t, x, named("c"), []int{1, 2}, []int{2})
		wantIndex(t, "many times", x, l)
	}
}

// P13.1: what is told once stands in its row also where a package has only the last of its names in common with others.
func TestRow(t *testing.T) {
	l := []api.Package{
		over(at("d", "1"), named("c"), named("b"), named("c"), named("a"), ranged("c", api.Equal, "1")),
		at("a", "1"), at("b", "1"), at("c", "1"), at("a", "2"), at("c", "2"), at("b", "2"), at("d", "2"),
		over(at("e", "1"), ranged("d", api.Greater, "1"), ranged("b", api.Less, "2"), named("d"), ranged("a", api.Equal, "2")),
	}
	for _, in := range spread(l...) {
		x, _ := made(t, in)
		wantOver(t, x, len(l), map[int][]int{0: {1, 2, 3, 4, 5, 6}, 8: {0, 2, 4, 7}})
		wantIndex(t, "rows", x, l)
	}
}

// P13.1: who obsoletes several others, another one that obsoletes it, its own name, and none; only by the name that one has itself.
func TestObsoletes(t *testing.T) {
	provider := filed(providing(at("p", "1"), named("a"), named("/a")), "/a")
	in := input{
		installed: []api.Package{at("a", "1"), over(at("a", "2"), named("a")), provider},
		repos: []api.Repo{
			repo(over(at("b", "2"), ranged("a", api.Less, "2")), over(at("c", "2"), ranged("a", api.Equal, "2"), named("b"))),
			repo(over(at("b", "2"), named("c"), named("b")), over(at("d", "2"), named("/a"), named("e")), over(at("a", "2"), named("a"))),
		},
	}
	x, _ := made(t, in)
	wantOver(t, x, 8, map[int][]int{1: {0, 7}, 3: {0}, 4: {1, 3, 5, 7}, 5: {3, 4}, 7: {0, 1}})
	wantIndex(t, "some", x, in.all())
}

// P13.1: a package in whose Obsoletes it is named itself is told among its like, but not for itself.
func TestObsoletesItself(t *testing.T) {
	for _, d := range []api.Dep{named("a"), ranged("a", api.Equal, "1"), ranged("a", api.Less|api.Equal, "1"), ranged("a", api.Greater, "0")} {
		p := over(at("a", "1"), d)
		if !pkg.Obsoletes(p, p) {
			t.Fatalf("%v: it is to be named here", d)
		}
		for _, in := range spread(p, at("b", "1"), p, p) {
			x, _ := made(t, in)
			wantOver(t, x, 4, map[int][]int{0: {2, 3}, 2: {0, 3}, 3: {0, 2}})
		}
		for _, in := range spread(p) {
			x, _ := made(t, in)
			wantOver(t, x, 1, nil)
		}
	}
}

// P13.1: numbers that there are not, whatever the packages obsolete.
func TestAbsent(t *testing.T) {
	for count := range 4 {
		for _, in := range spread(slices.Repeat([]api.Package{over(at("a", "1"), named("a"))}, count)...) {
			x, _ := made(t, in)
			for _, n := range absent(count) {
				wantList(t, "Obsoleted of none", x.Obsoleted(n), nil)
				wantList(t, "Obsoleters of none", x.Obsoleters(n), nil)
			}
			for n := range count {
				wantList(t, "Obsoleted", x.Obsoleted(n), those(count, func(m int) bool { return m != n }))
			}
		}
	}
}

// P13.1: names that are much alike are not the same.
func TestAlikeNames(t *testing.T) {
	like := []string{"-", "a", "A", "aa", "a-", "-a", "a0", "a.", "ab", "b", "ba", longest, longest[1:], longest[1:] + "y", "if0", "a/", "a/b"}
	var l []api.Package
	for i, name := range like {
		l = append(l, over(filed(providing(at(name, "1"), named(like[(i+1)%len(like)])), "/"+strconv.Itoa(i)), named(like[(i+2)%len(like)])))
	}
	count := len(like)
	for _, in := range []input{{installed: l}, {repos: []api.Repo{repo(l[5:]...)}, installed: l[:5]}} {
		x, _ := made(t, in)
		for i, name := range like {
			both := []int{(i + count - 1) % count, i}
			slices.Sort(both)
			wantTold(t, x, named(name), both, []int{i})
			wantTold(t, x, named("/"+strconv.Itoa(i)), []int{i}, nil)
			wantList(t, "Obsoleted", x.Obsoleted(i), []int{(i + 2) % count})
			wantList(t, "Obsoleters", x.Obsoleters(i), []int{(i + count - 2) % count})
		}
		for _, name := range []string{"", "B", "aaa", "if", "/a", "/", "/17", longest + "x", longest[2:]} {
			wantTold(t, x, named(name), nil, nil)
		}
	}
}

// P13.1: what a package requires, conflicts with, recommends, supplements, suggests, enhances or obsoletes, it does not provide; nor does its vendor count.
func TestOtherLists(t *testing.T) {
	p := at("a", "1")
	atom := []api.Rich{{Kind: api.Atom, Dep: named("b")}}
	p.Requires, p.Conflicts, p.Recommends, p.Supplements, p.Suggests, p.Enhances = atom, atom, atom, atom, atom, atom
	p.Vendor, p.Obsoletes = "b", []api.Dep{named("b")}
	x, _ := made(t, input{installed: []api.Package{p}})
	wantTold(t, x, named("b"), nil, nil)
	wantTold(t, x, named("a"), []int{0}, []int{0})
	q := at("c", "1")
	q.Requires, q.Conflicts, q.Recommends, q.Supplements, q.Suggests, q.Enhances = atom, atom, atom, atom, atom, atom
	q.Provides, q.Files, q.Vendor = []api.Dep{named("b")}, []string{"/b"}, "b"
	x, _ = made(t, input{installed: []api.Package{q, at("b", "1")}})
	wantOver(t, x, 2, nil)
}

// P13.1: ordinary pools, and ones that grow.
func TestOrdinary(t *testing.T) {
	told := 0
	for i, in := range some() {
		x, _ := made(t, in)
		l := in.all()
		wantIndex(t, "number "+strconv.Itoa(i), x, l)
		for n := range l {
			told += len(x.Obsoleted(n)) + len(x.Providers(pkg.Own(l[n])))
		}
	}
	if told < 2000 {
		t.Errorf("%d: too few", told)
	}
}

// P13.1: as many packages as there may be, each with as many dependencies and files as there may be.
func TestGreat(t *testing.T) {
	var l []api.Package
	for i := range api.MaxPackages {
		p := at("a", strconv.Itoa(i))
		p.Provides = slices.Repeat([]api.Dep{ranged("b", api.Equal, strconv.Itoa(i))}, api.MaxDeps)
		p.Obsoletes = slices.Repeat([]api.Dep{ranged("a", api.Less, strconv.Itoa(i))}, api.MaxDeps)
		for j := range api.MaxFiles {
			p.Files = append(p.Files, "/"+strconv.Itoa(100+j))
		}
		l = append(l, p)
	}
	for _, in := range []input{{installed: l}, {repos: []api.Repo{repo(l[100:200]...), repo(l[200:]...)}, installed: l[:100]}} {
		x, _ := made(t, in)
		below := func(most int) []int { return those(256, func(n int) bool { return n < most }) }
		above := func(least int) []int { return those(256, func(n int) bool { return n > least }) }
		for n := range l {
			ver := strconv.Itoa(n)
			wantTold(t, x, ranged("a", api.Less, ver), below(n), below(n))
			wantTold(t, x, ranged("b", api.Greater, ver), above(n), nil)
			wantTold(t, x, ranged("b", api.Equal, ver), []int{n}, nil)
			wantList(t, "Obsoleted", x.Obsoleted(n), below(n))
			wantList(t, "Obsoleters", x.Obsoleters(n), above(n))
		}
		wantTold(t, x, named("a"), below(256), below(256))
		wantTold(t, x, named("/131"), below(256), nil)
		wantTold(t, x, named("/132"), nil, nil)
	}
}
