package match_test

import (
	"slices"
	"strconv"
	"testing"

	"chandlery/api"
	"chandlery/match"
	"chandlery/pkg"
	"chandlery/pool"
)

// P13.2: a package is among the providers exactly if it provides the dependency, by package pkg; the same holds for the named ones.
func TestExactly(t *testing.T) {
	in := map[bool]int{}
	for _, one := range some() {
		x, p := made(t, one)
		for _, d := range asked(one.all()) {
			providers, named := x.Providers(d), x.Named(d)
			for n := range p.Count() {
				q, _ := p.Package(n)
				if yes := slices.Contains(providers, n); yes != pkg.Provides(q, d) {
					t.Errorf("%d is among those that provide %.80s: %v", n, text(d), yes)
				}
				yes := slices.Contains(named, n)
				if yes != pkg.Named(q, d) {
					t.Errorf("%d is among those that are named by %.80s: %v", n, text(d), yes)
				}
				in[yes]++
			}
		}
	}
	if in[true] < 1000 || in[false] < 10000 {
		t.Errorf("%v: too few", in)
	}
}

// P13.2: those of a part of the packages are those of all that are in the part.
func TestParts(t *testing.T) {
	var d dice
	for range 50 {
		l := d.input().all()
		whole, _ := made(t, input{installed: l})
		first := d.roll(len(l) + 1)
		part, _ := made(t, input{installed: l[first:]})
		for _, d := range asked(l) {
			for what, pair := range map[string][2][]int{"Providers": {whole.Providers(d), part.Providers(d)}, "Named": {whole.Named(d), part.Named(d)}} {
				want := slices.DeleteFunc(pair[0], func(n int) bool { return n < first })
				for i := range want {
					want[i] -= first
				}
				wantList(t, what+" of "+text(d), pair[1], want)
			}
		}
	}
}

// P13.1, P13.2: what is told stands in increasing order, each number once, and is one of a package.
func TestIncreasing(t *testing.T) {
	for _, in := range some() {
		x, p := made(t, in)
		check := func(l []int) {
			for i, n := range l {
				if n < 0 || n >= p.Count() || i > 0 && l[i-1] >= n {
					t.Errorf("%v, of %d", l, p.Count())
				}
			}
		}
		for _, d := range asked(in.all()) {
			check(x.Providers(d))
			check(x.Named(d))
		}
		for n := range p.Count() {
			check(x.Obsoleted(n))
			check(x.Obsoleters(n))
		}
	}
}

// among says whether all of a are in b.
func among(a, b []int) bool {
	return !slices.ContainsFunc(a, func(n int) bool { return !slices.Contains(b, n) })
}

// P13.3: a package that is named provides the dependency, and each is named by its own one.
func TestNamedToo(t *testing.T) {
	for _, in := range some() {
		x, _ := made(t, in)
		l := in.all()
		for _, d := range asked(l) {
			if a, b := x.Named(d), x.Providers(d); !among(a, b) {
				t.Errorf("%.80s: %v are named, and %v provide it", text(d), a, b)
			}
		}
		for n, p := range l {
			if d := pkg.Own(p); !slices.Contains(x.Named(d), n) || !slices.Contains(x.Providers(d), n) {
				t.Errorf("%d is not among those of its own dependency: %v, %v", n, x.Named(d), x.Providers(d))
			}
		}
	}
}

// P13.4: each of the packages that n obsoletes has n among its obsoleters, and the other way round; and both are as the pool tells.
func TestInverse(t *testing.T) {
	pairs := 0
	for _, in := range some() {
		x, p := made(t, in)
		for n := range p.Count() {
			for m := range p.Count() {
				a, b := slices.Contains(x.Obsoleted(n), m), slices.Contains(x.Obsoleters(m), n)
				if a != b || a != p.Obsoletes(n, m) || a && n == m {
					t.Errorf("%d obsoletes %d: %v, %v; by the pool %v", n, m, a, b, p.Obsoletes(n, m))
				}
				if a {
					pairs++
				}
			}
		}
	}
	if pairs < 300 {
		t.Errorf("%d pairs: too few", pairs)
	}
}

// P13.4: those that obsolete one another, each all others, and in a ring.
func TestOneAnother(t *testing.T) {
	name := func(i int) string { return "p" + strconv.Itoa(i) }
	for _, count := range []int{1, 2, 3, 20} {
		var all []api.Dep
		for i := range count {
			all = append(all, named(name(i)))
		}
		var each, ring []api.Package
		for i := range count {
			each = append(each, over(at(name(i), "1"), all...))
			ring = append(ring, over(at(name(i), "1"), all[(i+1)%count]))
		}
		for _, in := range spread(each...) {
			x, _ := made(t, in)
			for n := range count {
				others := those(count, func(m int) bool { return m != n })
				wantList(t, "Obsoleted", x.Obsoleted(n), others)
				wantList(t, "Obsoleters", x.Obsoleters(n), others)
			}
		}
		for _, in := range spread(ring...) {
			x, _ := made(t, in)
			for n := range count {
				next, before := (n+1)%count, (n+count-1)%count
				wantList(t, "Obsoleted", x.Obsoleted(n), those(count, func(m int) bool { return m == next && m != n }))
				wantList(t, "Obsoleters", x.Obsoleters(n), those(count, func(m int) bool { return m == before && m != n }))
			}
		}
	}
}

// P13.5: what provides a dependency provides its name in any version; the same holds for what is named.
func TestAnyVersion(t *testing.T) {
	told := 0
	for _, in := range some() {
		x, _ := made(t, in)
		for _, d := range asked(in.all()) {
			all := named(d.Name)
			if a, b := x.Providers(d), x.Providers(all); !among(a, b) {
				t.Errorf("%v provide %.80s, and %v any version", a, text(d), b)
			}
			a, b := x.Named(d), x.Named(all)
			if !among(a, b) {
				t.Errorf("%v are named by %.80s, and %v by any version", a, text(d), b)
			}
			if len(a) > 0 && len(a) < len(b) {
				told++
			}
		}
	}
	if told < 100 {
		t.Errorf("%d: too few", told)
	}
}

// tell is all that an index of so many packages tells of these dependencies.
func tell(x *match.Index, deps []api.Dep, count int) [][]int {
	var l [][]int
	for _, d := range deps {
		l = append(l, x.Providers(d), x.Named(d))
	}
	for n := range count {
		l = append(l, x.Obsoleted(n), x.Obsoleters(n))
	}
	return l
}

// copied are the same lists in other memory.
func copied(l [][]int) [][]int {
	var c [][]int
	for _, one := range l {
		c = append(c, append([]int{}, one...))
	}
	return c
}

// wantSame asks for the same lists.
func wantSame(t *testing.T, what string, got, want [][]int) {
	t.Helper()
	if !slices.EqualFunc(got, want, slices.Equal[[]int]) {
		t.Errorf("%s: %v, want %v", what, got, want)
	}
}

// R1: what is told may be changed afterwards, up to its capacity, and the index tells the same again; no two lists share memory.
func TestChangedResults(t *testing.T) {
	for _, in := range some() {
		x, _ := made(t, in)
		l := in.all()
		deps := asked(l)
		first, second := tell(x, deps, len(l)), tell(x, deps, len(l))
		want := copied(first)
		for i, one := range first {
			_ = append(one, 77)
			one = one[:cap(one)]
			for j := range one {
				one[j] = -1 - j
			}
			if i%7 == 0 {
				wantSame(t, "lists after one that was changed", first[i+1:], want[i+1:])
			}
		}
		wantSame(t, "told earlier", second, want)
		wantSame(t, "told later", tell(x, deps, len(l)), want)
	}
}

// R1: what the pool was made of, what it tells, and the pool itself may be changed afterwards, and the index tells the same.
func TestChangedPool(t *testing.T) {
	for _, in := range some() {
		l := slices.Clone(in.all())
		for i, p := range l {
			l[i] = pkg.Copy(p)
		}
		x, p := made(t, in)
		change := func(q *api.Package) {
			for i := range q.Provides {
				q.Provides[i].Name = "changed"
			}
			for i := range q.Obsoletes {
				q.Obsoletes[i] = named("a")
			}
			for i := range q.Files {
				q.Files[i] = "/changed"
			}
			q.Name, q.EVR.Ver = "changed", "9"
		}
		for i := range in.installed {
			change(&in.installed[i])
		}
		for _, r := range in.repos {
			for i := range r.Packages {
				change(&r.Packages[i])
			}
		}
		for n := range p.Count() {
			q, _ := p.Package(n)
			change(&q)
		}
		wantIndex(t, "changed", x, l)
		*p = pool.Pool{}
		wantIndex(t, "a pool that is no more", x, l)
	}
}

// R1: the pool is told as before by one that has an index, and many indexes of one pool tell the same.
func TestPoolStays(t *testing.T) {
	for _, in := range some() {
		x, p := made(t, in)
		l := in.all()
		deps := asked(l)
		before := tell(x, deps, len(l))
		y, e := match.New(p)
		if e != api.OK {
			t.Fatal(e)
		}
		other, _ := made(t, in)
		wantSame(t, "the same pool", tell(y, deps, len(l)), before)
		wantSame(t, "another pool of the same", tell(other, deps, len(l)), before)
		for n, want := range l {
			if got, _ := p.Package(n); !pkg.Same(got, want) {
				t.Errorf("%d is now %v, of %v", n, got, want)
			}
			if !slices.Equal(p.Named(want.Name), those(len(l), func(m int) bool { return l[m].Name == want.Name })) {
				t.Errorf("Named(%q): %v", want.Name, p.Named(want.Name))
			}
		}
	}
}

// R1: what was asked hangs on nothing that was asked before, in whatever row it is asked.
func TestAnyRow(t *testing.T) {
	var d dice
	for _, in := range some() {
		x, _ := made(t, in)
		fresh, _ := made(t, in)
		l := in.all()
		deps := asked(l)
		want := tell(x, deps, len(l))
		for range 30 {
			i := d.roll(len(deps))
			wantList(t, "Named", fresh.Named(deps[i]), want[2*i+1])
			wantList(t, "Providers", fresh.Providers(deps[i]), want[2*i])
			if len(l) > 0 {
				n := d.roll(len(l))
				wantList(t, "Obsoleters", fresh.Obsoleters(n), want[2*len(deps)+2*n+1])
				wantList(t, "Obsoleted", fresh.Obsoleted(n), want[2*len(deps)+2*n])
			}
		}
	}
}
