package pool_test

import (
	"reflect"
	"slices"
	"strings"
	"testing"

	"chandlery/api"
	"chandlery/pkg"
	"chandlery/pool"
)

// made is the pool of an input that is valid.
func made(t *testing.T, in input) *pool.Pool {
	t.Helper()
	x, e := pool.New(in.repos, in.installed)
	if x == nil || e != api.OK {
		t.Fatalf("New(%v): %v, %d", in, x, e)
	}
	return x
}

// P12.2: several packages of one name, over the installed ones and several repositories.
func TestSameNames(t *testing.T) {
	in := input{
		repos:     []api.Repo{repo(9, at("b", "1"), at("a", "2"), at("a", "2")), {}, repo(9, at("a", "1"), at("c", "1"), at("b", "2"))},
		installed: []api.Package{at("a", "3"), at("b", "1"), at("a", "1")},
	}
	x := wantPool(t, "one name", in)
	for name, want := range map[string][]int{"a": {0, 2, 4, 5, 6}, "b": {1, 3, 8}, "c": {7}, "d": nil, "": nil} {
		if l := x.Named(name); !slices.Equal(l, want) {
			t.Errorf("Named(%q): %v, want %v", name, l, want)
		}
	}
	if l := x.Names(); !slices.Equal(l, []string{"a", "b", "c"}) {
		t.Errorf("Names: %q", l)
	}
}

// P12.2: each number of very many of one name, in increasing order.
func TestManyOfOneName(t *testing.T) {
	var in input
	for i := range api.MaxPackages {
		p := called(strings.Repeat("a", 1+i%3))[0]
		if i < 100 {
			in.installed = append(in.installed, p)
			continue
		}
		if len(in.repos) == 0 || i%20 == 0 {
			in.repos = append(in.repos, repo(i))
		}
		last := &in.repos[len(in.repos)-1]
		last.Packages = append(last.Packages, p)
	}
	x := made(t, in)
	wantEntries(t, "three names", x, in.entries())
	for i, name := range []string{"a", "aa", "aaa"} {
		var want []int
		for n := i; n < api.MaxPackages; n += 3 {
			want = append(want, n)
		}
		if l := x.Named(name); !slices.Equal(l, want) {
			t.Errorf("Named(%q): %v, want %v", name, l, want)
		}
	}
}

// P12.2: names that are much alike: in their last byte alone, by their beginnings, by their case.
func TestAlikeNames(t *testing.T) {
	long := strings.Repeat("y", api.MaxName-1)
	names := []string{"+", "-", "-a", ".", "0", "00", "01", "1", "10", "2", ":", "@", "A", "AND", "B", "^", "_", "a", "a+", "a-", "a-1", "a-10", "a-2", "a.", "a/", "a0", "a:", "aA", "a_", "aa", "aab", "ab", "and-", "andy", "b", "iF", "if0", "lib", "liba", "libb", long, long + "-", long + "0", long + "x", long + "y", "~", "~~"}
	if !slices.IsSorted(names) {
		t.Fatal("they are to be in order here")
	}
	for _, turn := range []func([]string){func([]string) {}, slices.Reverse[[]string], func(l []string) {
		var d dice
		for i := range l {
			j := d.roll(i + 1)
			l[i], l[j] = l[j], l[i]
		}
	}} {
		given := slices.Clone(names)
		turn(given)
		for split := range len(given) + 1 {
			x := made(t, input{repos: []api.Repo{repo(1, called(given[split:]...)...)}, installed: called(given[:split]...)})
			if l := x.Names(); !slices.Equal(l, names) {
				t.Fatalf("Names: %q, want %q", l, names)
			}
			for n, name := range given {
				if l := x.Named(name); !slices.Equal(l, []int{n}) {
					t.Errorf("Named(%q): %v, want %d", name, l, n)
				}
			}
			for _, name := range append(noNames(), "libc", "li", "a-3", "-b", "Lib", "aB", "~~~", long+"z") {
				if l := x.Named(name); len(l) != 0 {
					t.Errorf("Named(%q): %v", name, l)
				}
			}
		}
	}
}

// P12.2: neither Provides, Obsoletes, Files nor what is required are names.
func TestNamesAlone(t *testing.T) {
	x := made(t, input{installed: []api.Package{ordinary()}})
	if l := x.Names(); !slices.Equal(l, []string{"vim"}) {
		t.Errorf("Names: %q", l)
	}
	for _, p := range []api.Package{ordinary()} {
		for _, s := range textsIn(reflect.ValueOf(p)) {
			if l := x.Named(s); len(l) != 0 != (s == "vim") {
				t.Errorf("Named(%q): %v", s, l)
			}
		}
	}
}

// P12.2: which package obsoletes which: by its Obsoletes, that one's own name and version, and never itself.
func TestObsoletes(t *testing.T) {
	over := func(name string, l ...api.Dep) api.Package {
		p := at(name, "2")
		p.Obsoletes = l
		return p
	}
	provider := at("p", "1")
	provider.Provides, provider.Files = []api.Dep{named("a")}, []string{"/a"}
	x := wantPool(t, "some", input{
		installed: []api.Package{at("a", "1"), over("a", named("a")), provider},
		repos: []api.Repo{
			repo(1, over("b", ranged("a", api.Less, "2")), over("c", ranged("a", api.Equal, "2"), named("b"))),
			repo(2, over("b", named("c"), named("b")), over("d", named("/a"), named("e")), over("a", named("a"))),
		},
	})
	want := map[int][]int{1: {0, 7}, 3: {0}, 4: {1, 3, 5, 7}, 5: {3, 4}, 7: {0, 1}}
	for n := range x.Count() {
		for m := range x.Count() {
			if x.Obsoletes(n, m) != slices.Contains(want[n], m) {
				t.Errorf("Obsoletes(%d, %d): %v", n, m, x.Obsoletes(n, m))
			}
		}
	}
}

// P12.2: a package in whose Obsoletes it is named itself obsoletes its like, but not itself.
func TestObsoletesItself(t *testing.T) {
	for _, d := range []api.Dep{named("a"), ranged("a", api.Equal, "1"), ranged("a", api.Less|api.Equal, "1"), ranged("a", api.Greater, "0")} {
		p := at("a", "1")
		p.Obsoletes = []api.Dep{d}
		if !pkg.Obsoletes(p, p) {
			t.Fatalf("%v: it is to be named here", d)
		}
		x := wantPool(t, "its like", input{installed: []api.Package{p, p}, repos: []api.Repo{repo(1, p), repo(1, p)}})
		for n := range 4 {
			for m := range 4 {
				if x.Obsoletes(n, m) != (n != m) {
					t.Errorf("Obsoletes(%d, %d): %v", n, m, x.Obsoletes(n, m))
				}
			}
		}
	}
}

// P12.2: held against package pkg, for many pools, of which some packages obsolete one another.
func TestObsoletesAny(t *testing.T) {
	var d dice
	n := map[bool]int{}
	for range 500 {
		in := d.input()
		x, l := made(t, in), in.entries()
		wantObsoletes(t, "grown ones", x, l)
		for i := range l {
			for j := range l {
				n[x.Obsoletes(i, j)]++
			}
		}
	}
	if n[true] < 300 || n[false] < 3000 {
		t.Errorf("%v: too few", n)
	}
}

// P12.4: each number is among those of exactly one name of Names, which is its Name.
func TestEachNumberHasAName(t *testing.T) {
	check := func(in input) {
		x := made(t, in)
		times := make([]int, x.Count())
		names := x.Names()
		for _, name := range names {
			l := x.Named(name)
			if len(l) == 0 {
				t.Errorf("Named(%q): none", name)
			}
			for _, n := range l {
				times[n]++
				if p, _ := x.Package(n); p.Name != name {
					t.Errorf("%d is among those of %q, and has the name %q", n, name, p.Name)
				}
			}
		}
		for n, k := range times {
			if k != 1 {
				t.Errorf("%d is %d times among those of %q", n, k, names)
			}
		}
		for i := 1; i < len(names); i++ {
			if names[i-1] >= names[i] {
				t.Errorf("not in increasing order: %q", names)
			}
		}
	}
	for _, in := range some() {
		check(in)
	}
	check(input{installed: several("p", api.MaxPackages)})
	var d dice
	for range 2000 {
		check(d.input())
	}
}
