package pool_test

import (
	"reflect"
	"slices"
	"testing"

	"chandlery/api"
	"chandlery/pkg"
	"chandlery/pool"
)

// P12.3: numbers below Installed are the installed ones, in order; the others those of the repositories, one after another.
func TestOrder(t *testing.T) {
	check := func(in input) {
		x := made(t, in)
		for n, p := range in.installed {
			if got, _ := x.Package(n); !pkg.Same(got, p) || x.Repo(n) != -1 || n >= x.Installed() {
				t.Errorf("%d of the installed ones: %v, of %d", n, got, x.Repo(n))
			}
		}
		first := x.Installed()
		for i, r := range in.repos {
			for j, p := range r.Packages {
				if got, _ := x.Package(first + j); !pkg.Same(got, p) || x.Repo(first+j) != i {
					t.Errorf("%d of repository %d: %v, of %d", j, i, got, x.Repo(first+j))
				}
			}
			first += len(r.Packages)
		}
		if first != x.Count() {
			t.Errorf("Count: %d, want %d", x.Count(), first)
		}
		for n := 1; n < x.Count(); n++ {
			if x.Repo(n-1) > x.Repo(n) || (n < x.Installed()) != (x.Repo(n) == -1) {
				t.Errorf("%d is of %d, and the one ahead of it of %d", n, x.Repo(n), x.Repo(n-1))
			}
		}
	}
	for _, in := range some() {
		check(in)
	}
	for _, in := range spread(api.MaxPackages) {
		check(in)
	}
	var d dice
	for range 2000 {
		check(d.input())
	}
}

// P12.3: two packages that change places change their numbers, and nothing else.
func TestOrderTurned(t *testing.T) {
	var d dice
	for range 500 {
		in := d.input()
		l := in.entries()
		turned := in.copy()
		slices.Reverse(turned.installed)
		for _, r := range turned.repos {
			slices.Reverse(r.Packages)
		}
		x := wantPool(t, "turned", turned)
		var back []entry
		for n := 0; n < len(l); {
			end := n
			for end < len(l) && l[end].repo == l[n].repo {
				end++
			}
			for m := end - 1; m >= n; m-- {
				back = append(back, l[m])
			}
			n = end
		}
		wantEntries(t, "turned", x, back)
	}
}

// told is all that a pool tells.
type told struct {
	packages []api.Package
	numbers  [][]int
	names    []string
}

// tell is all that x tells, whose packages have these names.
func tell(t *testing.T, x *pool.Pool, names []string) told {
	t.Helper()
	l := told{names: x.Names()}
	for n := range x.Count() {
		p, e := x.Package(n)
		if e != api.OK {
			t.Errorf("Package(%d): %d", n, e)
		}
		l.packages = append(l.packages, p)
	}
	for _, name := range names {
		l.numbers = append(l.numbers, x.Named(name))
	}
	return l
}

// overwrite changes all that was told, where it lies.
func (l told) overwrite() {
	overwrite(reflect.ValueOf(&l.names).Elem())
	overwrite(reflect.ValueOf(&l.packages).Elem())
	overwrite(reflect.ValueOf(&l.numbers).Elem())
}

// namesOf are the names of packages, in their row.
func namesOf(l []entry) []string {
	var names []string
	for _, e := range l {
		names = append(names, e.p.Name)
	}
	return names
}

// P12.5: what is handed in may be changed afterwards, in each of its parts, and the pool tells the same.
func TestChangedArguments(t *testing.T) {
	check := func(in input) {
		want := in.copy().entries()
		x := made(t, in)
		overwrite(reflect.ValueOf(&in.repos).Elem())
		overwrite(reflect.ValueOf(&in.installed).Elem())
		wantEntries(t, "changed", x, want)
		wantObsoletes(t, "changed", x, want)
		wantNone(t, "changed", x)
	}
	for _, in := range some() {
		check(in)
	}
	var d dice
	for range 500 {
		check(d.input())
	}
}

// P12.5: rich dependencies, and lists within them, that are changed one by one where they lie.
func TestChangedParts(t *testing.T) {
	p := ordinary()
	before := copied(p)
	x := made(t, input{repos: []api.Repo{repo(1, p)}, installed: []api.Package{p}})
	change := func(p *api.Package) {
		for _, step := range []func(){
			func() { p.Requires[1].Args[1].Args[0].Dep.Name = "changed" },
			func() { p.Requires[1].Args[1].Args[1] = atom("changed") },
			func() { p.Requires[1].Args[2].Kind = api.Or },
			func() { p.Requires[0] = atom("changed") },
			func() { p.Conflicts[1].Args[0].Dep.Name = "changed" },
			func() { p.Recommends[0].Args[1].Dep.EVR.Ver = "9" },
			func() { p.Supplements[0].Args[0] = atom("changed") },
			func() { p.Suggests[1].Dep.Op = api.Less },
			func() { p.Enhances[0].Args[1].Dep.Name = "changed" },
			func() { p.Provides[1].EVR.Ver = "changed" },
			func() { p.Obsoletes[0].Name = "vim" },
			func() { p.Files[2] = "/changed" },
			func() { p.Name, p.EVR.Ver, p.Arch, p.Vendor = "changed", "changed", api.I686, "changed" },
		} {
			step()
			for n := range 2 {
				if got, _ := x.Package(n); !pkg.Same(got, before) {
					t.Fatalf("changed: %v", got)
				}
			}
			if x.Obsoletes(0, 1) || !slices.Equal(x.Names(), []string{"vim"}) {
				t.Fatalf("changed: %q", x.Names())
			}
		}
	}
	change(&p)
	for n := range 2 {
		got, _ := x.Package(n)
		change(&got)
	}
}

// P12.5: what is told may be changed afterwards, and the pool tells the same again.
func TestChangedResults(t *testing.T) {
	check := func(in input) {
		want := in.copy().entries()
		x := made(t, in)
		for range 2 {
			tell(t, x, namesOf(want)).overwrite()
			wantEntries(t, "changed", x, want)
			wantObsoletes(t, "changed", x, want)
		}
		if !slices.EqualFunc(in.entries(), want, func(a, b entry) bool { return reflect.DeepEqual(a, b) }) {
			t.Errorf("what was handed in has changed with what was told: %v", in)
		}
	}
	for _, in := range some() {
		check(in)
	}
	var d dice
	for range 500 {
		check(d.input())
	}
}

// P12.5: numbers and names that are appended to what was told stand in nothing that is told later.
func TestAppendedResults(t *testing.T) {
	x := made(t, input{installed: called("a", "b", "a", "a", "c"), repos: []api.Repo{repo(1, called("a", "a")...)}})
	first, second := x.Named("a"), x.Named("a")
	_, _ = append(first, 77), append(x.Names(), "z")
	second = append(second, 88)
	if l := x.Named("a"); !slices.Equal(l, []int{0, 2, 3, 5, 6}) || second[5] != 88 {
		t.Errorf("Named: %v, and %v", l, second)
	}
	if l := x.Names(); !slices.Equal(l, []string{"a", "b", "c"}) {
		t.Errorf("Names: %q", l)
	}
}

// R1: a pool shares no memory with what is handed in, nor do two answers with one another.
func TestApart(t *testing.T) {
	long := func(name string) api.Package {
		p := ordinary()
		p.Name = name
		return copied(p)
	}
	in := input{repos: []api.Repo{repo(1, long("first"), long("second"))}, installed: []api.Package{long("third"), long("first")}}
	x := made(t, in)
	names := []string{"first", "second", "third"}
	a, b := tell(t, x, names), tell(t, x, names)
	for what, other := range map[string]told{"what was handed in": {packages: append(in.repos[0].Packages, in.installed...)}, "another answer": b} {
		wantApart(t, "packages and "+what, a.packages, other.packages)
		wantApart(t, "names and "+what, a.names, other.packages)
		wantApart(t, "names and the names of "+what, a.names, other.names)
	}
	for i, p := range a.packages {
		wantApart(t, "one package and others", p, a.packages[i+1:])
	}
	wantApart(t, "packages and names", a.packages, a.names)
}

// R1: one package that is handed in twice, or lists that share their memory, are apart in a pool, and in what it tells.
func TestListsApart(t *testing.T) {
	p := ordinary()
	list := []api.Package{p, p}
	rich := []api.Rich{of(api.And, atom("bb"), atom("cc"))}
	list[0].Requires, list[0].Recommends, list[0].Suggests = rich, rich, rich
	list[1].Obsoletes = list[1].Provides
	in := input{repos: []api.Repo{repo(1, list...), repo(2, list...)}, installed: list}
	want := in.copy().entries()
	x := made(t, in)
	for n := range x.Count() {
		got, _ := x.Package(n)
		if n%2 == 0 {
			got.Requires[0].Args[0] = atom("changed")
			if !reflect.DeepEqual(got.Recommends, want[0].p.Recommends) || !reflect.DeepEqual(got.Suggests, want[0].p.Suggests) {
				t.Errorf("%d has two lists in one memory: %v", n, got)
			}
		} else if got.Provides[0] = named("changed"); got.Obsoletes[0].Name != "editor" {
			t.Errorf("%d has two lists in one memory: %v", n, got)
		}
	}
	wantEntries(t, "changed", x, want)
}

// R1: what is handed in stays, and so does what stands behind its lists, whether it is taken or refused.
func TestArgumentsStay(t *testing.T) {
	check := func(in input) {
		repos, installed := append(slices.Clone(in.repos), repo(99, at("behind", "1"))), append(slices.Clone(in.installed), at("behind", "2"))
		for i, r := range in.repos {
			repos[i].Packages = append(slices.Clone(r.Packages), at("behind", "3"))[:len(r.Packages)]
		}
		before := input{repos, installed}.copy()
		x, e := pool.New(repos[:len(in.repos)], installed[:len(in.installed)])
		if e == api.OK {
			wantEntries(t, "with more behind the ends", x, in.entries())
			tell(t, x, namesOf(in.entries())).overwrite()
		}
		if !reflect.DeepEqual(repos, before.repos) || !reflect.DeepEqual(installed, before.installed) {
			t.Errorf("%v, %v have changed, from %v", repos, installed, before)
		}
		for i, r := range in.repos {
			if behind := repos[i].Packages[:len(r.Packages)+1][len(r.Packages)]; !pkg.Same(behind, at("behind", "3")) {
				t.Errorf("behind the packages of %d: %v", i, behind)
			}
		}
	}
	for _, in := range some() {
		check(in)
	}
	check(input{make([]api.Repo, 17), called("a")})
	check(input{[]api.Repo{repo(-1, called("a")...)}, called("a")})
	check(input{[]api.Repo{repo(1, called("a", "if")...)}, called("a")})
	check(input{nil, several("p", 257)})
	var d dice
	for range 300 {
		check(d.input())
	}
}

// P12.6: a pool without its last package, or its last repository, is valid, down to none.
func TestParts(t *testing.T) {
	check := func(in input) {
		for len(in.repos) > 0 {
			last := &in.repos[len(in.repos)-1]
			for len(last.Packages) > 0 {
				last.Packages = last.Packages[:len(last.Packages)-1]
				x := made(t, in)
				wantEntries(t, "without the last package", x, in.entries())
			}
			in.repos = in.repos[:len(in.repos)-1]
			wantPool(t, "without the last repository", in)
		}
		for len(in.installed) > 0 {
			in.installed = in.installed[:len(in.installed)-1]
			x := made(t, in)
			wantEntries(t, "without the last package", x, in.entries())
		}
	}
	for _, in := range some() {
		check(in)
	}
	full := input{installed: several("p", 16)}
	for i := range api.MaxRepos {
		full.repos = append(full.repos, repo(i, several("q", 15)...))
	}
	check(full)
	var d dice
	for range 200 {
		check(d.input())
	}
}

// P12.6: without a whole repository that has packages, whichever one it is, the others are told as before, under their new numbers.
func TestWithoutARepo(t *testing.T) {
	var d dice
	for range 300 {
		in := d.input()
		wantPool(t, "whole", in)
		for i := range in.repos {
			other := in.copy()
			other.repos = slices.Delete(other.repos, i, i+1)
			wantPool(t, "without one repository", other)
		}
	}
}

// P12.1, P12.2: the same each time, and of two pools of the same.
func TestSameEachTime(t *testing.T) {
	var d dice
	for range 100 {
		in := d.input()
		names := namesOf(in.entries())
		want := tell(t, made(t, in), names)
		x := made(t, in.copy())
		for range 5 {
			if got := tell(t, x, names); !reflect.DeepEqual(got, want) {
				t.Fatalf("%v, then %v", want, got)
			}
		}
	}
}
