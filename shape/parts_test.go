package shape_test

import (
	"reflect"
	"slices"
	"strings"
	"testing"

	"chandlery/api"
	"chandlery/shape"
)

// some are rich dependencies, valid and invalid ones, with their numbers of parts, their depths and the names of their Atoms.
var some = []struct {
	what         string
	r            api.Rich
	count, depth int
	names        string
}{
	{"nothing", api.Rich{}, 1, 1, ""},
	{"an Atom", atom("a"), 1, 0, "a"},
	{"an Atom of a range", ranged("a", api.Less, api.EVR{Epoch: 1, Ver: "2", Rel: "3"}), 1, 0, "a"},
	{"an Atom without a Dep", api.Rich{Kind: api.Atom}, 1, 0, ""},
	{"an Atom of a word that is no name", atom("if"), 1, 0, "if"},
	{"an Atom with an empty list", api.Rich{Kind: api.Atom, Dep: api.Dep{Name: "a"}, Args: []api.Rich{}}, 1, 0, "a"},
	{"an Atom with Args", both(api.Atom, "a", atom("b"), atom("c")), 3, 0, "a b c"},
	{"an Atom with an Arg that is deep", both(api.Atom, "a", nested(atom("b"), api.And, 3, false)), 8, 0, "a s s s b"},
	{"an And with an Atom with an And", of(api.And, both(api.Atom, "a", of(api.And, atoms(2)...)), atom("b")), 6, 1, "a pa0 pb0 b"},
	{"an And of none", of(api.And), 1, 1, ""},
	{"an And of none, with a Dep", both(api.And, "a"), 1, 1, ""},
	{"an And of an empty list", api.Rich{Kind: api.And, Args: []api.Rich{}}, 1, 1, ""},
	{"an And of one", of(api.And, atom("a")), 2, 1, "a"},
	{"an And with a Dep", both(api.And, "x", atom("a"), atom("b")), 3, 1, "a b"},
	{"an And of two", of(api.And, atom("a"), atom("b")), 3, 1, "a b"},
	{"an And of the same twice", of(api.And, atom("a"), atom("a")), 3, 1, "a a"},
	{"an And of an And of none", of(api.And, of(api.And)), 2, 2, ""},
	{"a Kind that there is not", both(8, "x", atom("a")), 2, 1, "a"},
	{"the last Kind that there is not", of(255, of(0, atom("b"), atom("a"))), 4, 2, "b a"},
	{"an If of three", of(api.If, atom("c"), atom("b"), atom("a")), 4, 1, "c b a"},
	{"deep in the first Arg", of(api.Or, of(api.Unless, atom("d"), of(api.With, atom("c"), atom("b"))), atom("a")), 7, 3, "d c b a"},
	{"deep in the second Arg", of(api.Or, atom("a"), of(api.Without, of(api.And, atom("b"), atom("c")), atom("d"))), 7, 3, "a b c d"},
	{"less deep behind", of(api.Or, of(api.And, of(api.And, atom("a"))), of(api.And, atom("b"))), 6, 3, "a b"},
	{"as many parts as may be", of(api.With, atoms(23)...), 24, 1, "pa0 pb0 pc0 pd0 pe0 pf0 pg0 ph0 pi0 pj0 pk0 pl0 pm0 pn0 po0 pp0 pq0 pr0 ps0 pt0 pu0 pv0 pw0"},
	{"as deep as may be", nested(atom("a"), api.Or, 8, true), 17, 8, "a s s s s s s s s"},
	{"deeper than may be", nested(atom("a"), api.If, 12, false), 25, 12, "s s s s s s s s s s s s a"},
}

// namesOf are the names of Deps, joined.
func namesOf(l []api.Dep) string {
	var names []string
	for _, d := range l {
		names = append(names, d.Name)
	}
	return strings.Join(names, " ")
}

// depsBy are the Deps of the Atoms, found by other means than the program's.
func depsBy(r api.Rich) []api.Dep {
	var l []api.Dep
	for _, p := range partsBy(r) {
		if p.r.Kind == api.Atom {
			l = append(l, p.r.Dep)
		}
	}
	return l
}

// P9.1, P9.2: Count, Depth and Atoms, for any.
func TestCounts(t *testing.T) {
	for _, c := range some {
		if n := shape.Count(c.r); n != c.count {
			t.Errorf("%s: Count %d, want %d", c.what, n, c.count)
		}
		if n := shape.Depth(c.r); n != c.depth {
			t.Errorf("%s: Depth %d, want %d", c.what, n, c.depth)
		}
		if l := shape.Atoms(c.r); namesOf(l) != c.names || !slices.Equal(l, depsBy(c.r)) {
			t.Errorf("%s: Atoms %v, want %s", c.what, l, c.names)
		}
	}
}

// P9.1: all 256 numbers as Kinds, without Args, and with them.
func TestCountsOfKinds(t *testing.T) {
	for n := range 256 {
		kind := uint8(n)
		depths := []int{1, 1, 2}
		if kind == api.Atom {
			depths = []int{0, 0, 0}
		}
		for i, r := range []api.Rich{{Kind: kind}, of(kind, atoms(2)...), of(kind, of(api.And, atom("a")), atom("b"))} {
			if d := shape.Depth(r); d != depths[i] {
				t.Errorf("Depth(%v): %d, want %d", r, d, depths[i])
			}
			if c := shape.Count(r); c != len(partsBy(r)) {
				t.Errorf("Count(%v): %d", r, c)
			}
			if l := shape.Atoms(r); !slices.Equal(l, depsBy(r)) {
				t.Errorf("Atoms(%v): %v", r, l)
			}
		}
	}
}

// P9.1, P9.2: held against what is found by other means, for all small ones and many grown ones.
func TestCountsAny(t *testing.T) {
	eachAny(5000, func(r api.Rich) {
		if n := shape.Count(r); n != len(partsBy(r)) {
			t.Errorf("Count(%v): %d", r, n)
		}
		if n := shape.Depth(r); n != depthBy(partsBy(r)) {
			t.Errorf("Depth(%v): %d", r, n)
		}
		if l := shape.Atoms(r); !slices.Equal(l, depsBy(r)) {
			t.Errorf("Atoms(%v): %v", r, l)
		}
	})
}

// Limits: what is very deep, and what is very wide, though it is far from valid.
func TestCountsOfLarge(t *testing.T) {
	const levels = 1 << 16
	for _, first := range []bool{false, true} {
		deep := nested(atom("a"), api.And, levels, first)
		if n, d, l := shape.Count(deep), shape.Depth(deep), shape.Atoms(deep); n != 2*levels+1 || d != levels || len(l) != levels+1 {
			t.Errorf("%d, %d, %d", n, d, len(l))
		}
		c := shape.Copy(deep)
		if !shape.Same(c, deep) || shape.Same(c, nested(atom("b"), api.And, levels, first)) || shape.Same(c, c.Args[0]) {
			t.Error("Same of what is very deep")
		}
	}
	wide := of(api.Or, slices.Repeat(atoms(2), levels)...)
	if n, d, l := shape.Count(wide), shape.Depth(wide), shape.Atoms(wide); n != 2*levels+1 || d != 1 || !slices.Equal(l, depsBy(wide)) {
		t.Errorf("%d, %d, %d", n, d, len(l))
	}
	if c := shape.Copy(wide); !shape.Same(c, wide) || shape.Same(c, of(api.Or, c.Args[1:]...)) {
		t.Error("Same of what is very wide")
	}
	twice := of(api.And, atom("a"))
	for range 16 {
		twice = of(api.And, twice, twice)
	}
	if n, d, l := shape.Count(twice), shape.Depth(twice), shape.Atoms(twice); n != 3*levels-1 || d != 17 || len(l) != levels {
		t.Errorf("%d, %d, %d", n, d, len(l))
	}
	if e := shape.May(shape.Copy(twice), shape.Needs); e != api.ErrTooLarge || !shape.Same(shape.Copy(twice), twice) {
		t.Error("Copy of what contains one list many times")
	}
}

// P9.2: unlike ones that differ in one part alone, and a copy.
func TestSame(t *testing.T) {
	check := func(r api.Rich) {
		for _, other := range altered(r) {
			if sameBy(r, other) {
				t.Fatalf("%v: an altered one is the same", r)
			}
			if shape.Same(r, other) || shape.Same(other, r) {
				t.Errorf("Same(%v, %v): true", r, other)
			}
		}
		for _, other := range []api.Rich{r, copied(r), shape.Copy(r)} {
			if !shape.Same(r, other) || !shape.Same(other, r) {
				t.Errorf("Same(%v, %v): false", r, other)
			}
		}
	}
	for _, c := range some {
		check(c.r)
	}
	grown(25, check)
}

// P9.2: each two of a row of unlike ones.
func TestSamePairs(t *testing.T) {
	l := []api.Rich{both(api.And, "", atom("b"), atom("a")), of(api.And, atom("a"), of(api.And, atom("b"))), of(api.And, of(api.And, atom("a")), atom("b")), {Dep: api.Dep{Name: "a"}}}
	for _, c := range some {
		l = append(l, c.r)
	}
	for i, a := range l {
		for j, b := range l {
			if want := i == j || sameBy(a, b); shape.Same(a, b) != want {
				t.Errorf("Same(%v, %v): %t", a, b, !want)
			}
		}
	}
	if a, b := of(api.And, atom("a"), atom("b")), of(api.And, atom("b"), atom("a")); shape.Same(a, b) {
		t.Error("the order counts")
	}
}

// P9.2: no Args and an empty list are the same, in each part.
func TestSameEmptyLists(t *testing.T) {
	for _, c := range some {
		filled := emptied(c.r)
		if !shape.Same(c.r, filled) || !shape.Same(filled, c.r) || !shape.Same(shape.Copy(filled), c.r) || !shape.Same(shape.Copy(filled), shape.Copy(c.r)) {
			t.Errorf("%s: with empty lists in place of none it is not the same", c.what)
		}
		wantLike(t, c.what, c.r, filled)
	}
}

// emptied is a copy with an empty list, with room behind it, in place of no Args.
func emptied(r api.Rich) api.Rich {
	args := make([]api.Rich, 0, len(r.Args)+2)
	for _, arg := range r.Args {
		args = append(args, emptied(arg))
	}
	r.Args = args
	return r
}

// wantLike asks for the same answers of both.
func wantLike(t *testing.T, what string, a, b api.Rich) {
	t.Helper()
	for where := range uint8(5) {
		if shape.May(a, where) != shape.May(b, where) {
			t.Errorf("%s: May at %d: %v and %v", what, where, shape.May(a, where), shape.May(b, where))
		}
	}
	if shape.Count(a) != shape.Count(b) || shape.Depth(a) != shape.Depth(b) || !slices.Equal(shape.Atoms(a), shape.Atoms(b)) {
		t.Errorf("%s: two that are the same have unlike numbers, or Atoms", what)
	}
}

// P9.2: a copy is the same; it may be changed anywhere, and the other stays, and the other way round.
func TestCopy(t *testing.T) {
	check := func(r api.Rich) {
		first, before := shape.Copy(r), copied(r)
		if !sameBy(first, r) {
			t.Errorf("Copy(%v): %v", r, first)
		}
		second := shape.Copy(first)
		change(&first)
		if !reflect.DeepEqual(r, before) || !sameBy(second, before) {
			t.Errorf("changed with its copy: %v, %v, want %v", r, second, before)
		}
		third := copied(r)
		fourth := shape.Copy(third)
		change(&third)
		if !sameBy(fourth, before) {
			t.Errorf("a copy changed with what it is of: %v, want %v", fourth, before)
		}
	}
	for _, c := range some {
		check(c.r)
		check(emptied(c.r))
	}
	grown(1000, check)
}

// change changes each part of a rich dependency, and puts further Args behind those that there are.
func change(r *api.Rich) {
	for i := range r.Args {
		change(&r.Args[i])
	}
	r.Args = append(r.Args, atom("behind"))
	for i := range r.Args[:cap(r.Args)] {
		r.Args[:cap(r.Args)][i].Kind++
	}
	r.Kind, r.Dep = r.Kind+1, api.Dep{Name: "changed", Op: 7, EVR: api.EVR{Epoch: 9}}
}

// R1: what is handed in stays, and so does what stands behind its lists.
func TestArgumentsStay(t *testing.T) {
	check := func(r api.Rich) {
		before := copied(r)
		for where := range uint8(5) {
			shape.May(r, where)
		}
		shape.Count(r)
		shape.Depth(r)
		clear(shape.Atoms(r))
		shape.Same(r, before)
		c := shape.Copy(r)
		change(&c)
		if !reflect.DeepEqual(r, before) {
			t.Errorf("%v has changed, from %v", r, before)
		}
	}
	for _, c := range some {
		check(c.r)
	}
	grown(1000, check)
	args := append(atoms(2), atom("if"), atom("or")) // the two behind the list do not count
	r := of(api.And, args[:2]...)
	check(r)
	c := shape.Copy(r)
	c.Args = append(c.Args, atom("new"))
	if args[2].Dep.Name != "if" || args[3].Dep.Name != "or" || shape.Count(r) != 3 || shape.May(r, shape.Weak) != api.OK {
		t.Errorf("what stands behind a list: %v", args)
	}
}

// R1: answers share no memory with what is handed in, nor with one another, nor has an answer two lists in one memory.
func TestAnswersAreNew(t *testing.T) {
	for _, c := range some {
		first, second := shape.Copy(c.r), shape.Copy(c.r)
		wantApart(t, c.what, textsOf(c.r), textsOf(first))
		wantApart(t, c.what, textsOf(second), textsOf(first))
		l, again := shape.Atoms(c.r), shape.Atoms(c.r)
		for _, d := range l {
			wantApart(t, c.what, textsOf(c.r), textsIn(d))
		}
		clear(l)
		if !slices.Equal(again, depsBy(c.r)) || !slices.Equal(shape.Atoms(c.r), again) {
			t.Errorf("%s: another answer of Atoms has changed: %v", c.what, again)
		}
	}
	list := atoms(3)
	c := shape.Copy(of(api.And, of(api.Or, list...), of(api.With, list...), of(api.Without, list[:2]...)))
	c.Args[0].Args[0] = atom("changed")
	c.Args[2].Args = append(c.Args[2].Args, atom("behind"))
	if !sameBy(c, of(api.And, of(api.Or, atom("changed"), list[1], list[2]), of(api.With, list...), of(api.Without, list[0], list[1], atom("behind")))) {
		t.Errorf("a copy has two lists in one memory: %v", c)
	}
}

// wantApart asks for texts that have no bytes in common memory.
func wantApart(t *testing.T, what string, l, m []string) {
	t.Helper()
	for _, a := range l {
		for _, b := range m {
			if shared(a, b) {
				t.Errorf("%s: %q shares memory with %q", what, a, b)
			}
		}
	}
}
