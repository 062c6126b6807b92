package match_test

import (
	"slices"
	"strings"
	"testing"

	"chandlery/api"
	"chandlery/evr"
	"chandlery/match"
	"chandlery/pkg"
	"chandlery/pool"
)

// longest is a name of the greatest length.
var longest = strings.Repeat("x", api.MaxName)

// ops are all valid Ops.
var ops = []uint8{api.Any, api.Less, api.Equal, api.Greater, api.Less | api.Equal, api.Greater | api.Equal}

// named is a dependency of any version.
func named(name string) api.Dep { return api.Dep{Name: name} }

// ranged is a dependency of a range of versions, of whatever release.
func ranged(name string, op uint8, ver string) api.Dep {
	return api.Dep{Name: name, Op: op, EVR: api.EVR{Ver: ver}}
}

// at is a valid package of that name and version, with the release 1, that has nothing that it need not have.
func at(name, ver string) api.Package {
	return api.Package{Name: name, EVR: api.EVR{Ver: ver, Rel: "1"}, Arch: api.NoArch}
}

// providing is a package that provides these, too.
func providing(p api.Package, l ...api.Dep) api.Package {
	p.Provides = l
	return p
}

// over is a package that obsoletes these.
func over(p api.Package, l ...api.Dep) api.Package {
	p.Obsoletes = l
	return p
}

// filed is a package that has these files.
func filed(p api.Package, l ...string) api.Package {
	p.Files = l
	return p
}

// repo is a repository.
func repo(packages ...api.Package) api.Repo { return api.Repo{Packages: packages} }

// input is what a pool is made of.
type input struct {
	repos     []api.Repo
	installed []api.Package
}

// all are the packages of the pool of an input, by their numbers.
func (in input) all() []api.Package {
	l := slices.Clone(in.installed)
	for _, r := range in.repos {
		l = append(l, r.Packages...)
	}
	return l
}

// made is the index of the pool of an input, and that pool.
func made(t *testing.T, in input) (*match.Index, *pool.Pool) {
	t.Helper()
	p, e := pool.New(in.repos, in.installed)
	if e != api.OK {
		t.Fatalf("pool.New(%v): %d", in, e)
	}
	x, e := match.New(p)
	if x == nil || e != api.OK {
		t.Fatalf("New: %v, %d", x, e)
	}
	return x, p
}

// spread puts packages over installed ones and repositories, in several ways, so that each has the same number in each of them.
func spread(l ...api.Package) []input {
	ways := []input{
		{installed: l},
		{repos: []api.Repo{repo(l...)}},
		{repos: []api.Repo{{}, {Priority: 7, Packages: l}, {}}},
	}
	var each input
	for i, p := range l {
		ways = append(ways, input{repos: []api.Repo{repo(l[i:]...)}, installed: l[:i]})
		ways = append(ways, input{repos: []api.Repo{{Priority: i, Packages: l[:i]}, repo(l[i:]...)}})
		each.repos = append(each.repos, api.Repo{Priority: i, Packages: []api.Package{p}})
	}
	if len(l) <= api.MaxRepos {
		ways = append(ways, each)
	}
	return ways
}

// dice are numbers that follow one another by a rule, the same each time.
type dice uint64

// roll is a number from 0 to n-1.
func (d *dice) roll(n int) int {
	*d = *d*6364136223846793005 + 1442695040888963407
	return int(uint64(*d)>>33) % n
}

// pick is one of several.
func pick[T any](d *dice, l ...T) T { return l[d.roll(len(l))] }

// listOf is a list of up to so many elements; more often it is neither short nor long.
func listOf[T any](d *dice, most int, one func() T) []T {
	var l []T
	for range (d.roll(most+1) + d.roll(most+1)) / 2 {
		l = append(l, one())
	}
	return l
}

// name is a name of few, some of which are much alike.
func (d *dice) name() string { return pick(d, "a", "b", "c", "ab", "A", longest) }

// file is a name of a file, one of few.
func (d *dice) file() string { return pick(d, "/a", "/b", "/a/b", "/") }

// evr is an EVR, one of few; with is its Rel.
func (d *dice) evr(with string) api.EVR {
	return api.EVR{Epoch: pick(d, 0, 0, 0, 1), Ver: pick(d, "1", "2", "3", "1~a"), Rel: with}
}

// dep is a valid dependency.
func (d *dice) dep() api.Dep {
	op := pick(d, ops...)
	switch {
	case d.roll(8) == 0:
		return named(d.file())
	case op == api.Any:
		return named(d.name())
	}
	return api.Dep{Name: d.name(), Op: op, EVR: d.evr(pick(d, "", "1", "2"))}
}

// pkg is a valid package.
func (d *dice) pkg() api.Package {
	p := api.Package{Name: d.name(), EVR: d.evr(pick(d, "1", "2")), Arch: uint8(1 + d.roll(4))}
	p.Provides = listOf(d, 4, d.dep)
	p.Obsoletes = listOf(d, 4, d.dep)
	p.Requires = listOf(d, 2, func() api.Rich { return api.Rich{Kind: api.Atom, Dep: d.dep()} })
	p.Conflicts = listOf(d, 2, func() api.Rich { return api.Rich{Kind: api.Atom, Dep: d.dep()} })
	p.Files = listOf(d, 3, d.file)
	slices.Sort(p.Files)
	p.Files = slices.Compact(p.Files)
	return p
}

// input is a valid one.
func (d *dice) input() input {
	repos := listOf(d, 5, func() api.Repo { return repo(listOf(d, 7, d.pkg)...) })
	return input{repos, listOf(d, 12, d.pkg)}
}

// some are valid inputs of all sorts.
func some() []input {
	l := []input{
		{},
		{repos: []api.Repo{{}, {}}},
		{installed: []api.Package{at("a", "1")}},
		{repos: []api.Repo{repo(at("a", "1"))}},
		{repos: []api.Repo{repo(over(at("b", "1"), named("a"))), repo(at("a", "2"))}, installed: []api.Package{at("a", "1"), over(at("a", "1"), named("a"), named("b"))}},
		{repos: []api.Repo{repo(filed(at("c", "1"), "/a", "/b"), providing(at("c", "2"), named("/a"), ranged("c", api.Less, "1")))}, installed: []api.Package{providing(at("b", "1"), named("a"), named("a"), ranged("a", api.Equal, "2"))}},
	}
	var d dice
	for range 100 {
		l = append(l, d.input())
	}
	return l
}

// meets says whether two dependencies have one name, and meet, by the words of S1.
func meets(a, b api.Dep) bool {
	const known = api.Less | api.Equal | api.Greater
	switch {
	case a.Name != b.Name:
		return false
	case a.Op&known == api.Any, b.Op&known == api.Any:
		return true
	}
	both := a.Op & b.Op & known
	return map[int]bool{
		-1: a.Op&api.Greater+b.Op&api.Less != 0,
		0:  both != 0,
		1:  a.Op&api.Less+b.Op&api.Greater != 0,
	}[evr.Compare(a.EVR, b.EVR)]
}

// names says whether a package is named by a dependency, by the words of S2.
func names(d api.Dep, p api.Package) bool {
	return meets(api.Dep{Name: p.Name, Op: api.Equal, EVR: p.EVR}, d)
}

// provides says whether a package provides a dependency, by the words of S2.
func provides(p api.Package, d api.Dep) bool {
	yes := names(d, p)
	for _, provided := range p.Provides {
		yes = yes || meets(provided, d)
	}
	for _, file := range p.Files {
		yes = yes || file == d.Name && d.Op == api.Any
	}
	return yes
}

// obsoletes says whether p obsoletes q, by the words of S2.
func obsoletes(p, q api.Package) bool {
	yes := false
	for _, d := range p.Obsoletes {
		yes = yes || names(d, q)
	}
	return yes
}

// those are the numbers below count of which a condition holds, in increasing order.
func those(count int, condition func(int) bool) []int {
	var l []int
	for n := range count {
		if condition(n) {
			l = append(l, n)
		}
	}
	return l
}

// asked are dependencies of all sorts: some that the packages have, others that grow, and ones that may not be.
func asked(l []api.Package) []api.Dep {
	var asked []api.Dep
	for _, p := range l {
		asked = append(asked, pkg.Own(p), named(p.Name))
		asked = append(asked, p.Provides...)
		asked = append(asked, p.Obsoletes...)
		for _, file := range p.Files {
			asked = append(asked, named(file))
		}
	}
	d := dice(len(asked))
	for range 20 {
		asked = append(asked, d.dep())
	}
	return append(asked, invalid()...)
}

// invalid are dependencies that may not be.
func invalid() []api.Dep {
	l := []api.Dep{
		{},
		{Name: "a", Op: api.Any, EVR: api.EVR{Ver: "2"}},
		{Name: "/a", Op: api.Any, EVR: api.EVR{Epoch: 1, Ver: "2", Rel: "1"}},
		{Name: "a", Op: api.Equal},
		{Name: "a", Op: api.Less, EVR: api.EVR{Epoch: -1}},
		{Name: "a", Op: api.Greater, EVR: api.EVR{Epoch: -1 << 63, Ver: "\x00"}},
		{Name: "a", Op: api.Equal, EVR: api.EVR{Epoch: 1 << 62, Ver: strings.Repeat("1", 1<<16), Rel: "-"}},
		{Op: api.Equal, EVR: api.EVR{Ver: "1", Rel: "1"}},
	}
	for _, op := range []uint8{api.Less | api.Greater, 7, 8, 9, 10, 12, 16, 128, 255} {
		l = append(l, ranged("a", op, "2"), ranged("/a", op, ""), api.Dep{Name: "b", Op: op})
	}
	for _, op := range ops {
		l = append(l, ranged("/a", op, "1"), ranged("/", op, ""))
	}
	for _, name := range noNames() {
		l = append(l, named(name), ranged(name, api.Greater|api.Equal, "0"))
	}
	return l
}

// noNames are names of nothing in the tests, though some are much alike those that there are.
func noNames() []string {
	return []string{" ", "a ", " a", "a\x00", "\xff", "B", "aa", "ba", "//", "a/", "/ab", "/a/", "/A", "/a/b/", longest + "x", longest[1:], strings.Repeat("y", 1<<16)}
}

// absent are numbers that no package of a pool has.
func absent(count int) []int {
	return []int{-1, -2, -256, -1 << 63, count, count + 1, count + 255, 1 << 32, 1<<63 - 1}
}

// wantList asks for these numbers.
func wantList(t *testing.T, what string, got, want []int) {
	t.Helper()
	if !slices.Equal(got, want) {
		t.Errorf("%.200s: %v, want %v", what, got, want)
	}
}

// wantIndex asks for all that an index of these packages tells, and for nothing else.
func wantIndex(t *testing.T, what string, x *match.Index, l []api.Package) {
	t.Helper()
	for _, d := range asked(l) {
		wantList(t, what+": Providers of "+text(d), x.Providers(d), those(len(l), func(n int) bool { return provides(l[n], d) }))
		wantList(t, what+": Named of "+text(d), x.Named(d), those(len(l), func(n int) bool { return names(d, l[n]) }))
	}
	for n := range l {
		wantList(t, what+": Obsoleted of "+l[n].Name, x.Obsoleted(n), those(len(l), func(m int) bool { return n != m && obsoletes(l[n], l[m]) }))
		wantList(t, what+": Obsoleters of "+l[n].Name, x.Obsoleters(n), those(len(l), func(m int) bool { return n != m && obsoletes(l[m], l[n]) }))
	}
	for _, n := range absent(len(l)) {
		wantList(t, what+": Obsoleted of none", x.Obsoleted(n), nil)
		wantList(t, what+": Obsoleters of none", x.Obsoleters(n), nil)
	}
}
