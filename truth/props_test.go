package truth_test

import (
	"reflect"
	"slices"
	"strings"
	"testing"

	"chandlery/api"
	"chandlery/pkg"
	"chandlery/pool"
	"chandlery/shape"
	"chandlery/truth"
)

// P14.3: a state with more packages still satisfies what has neither If nor Unless.
func TestMonotone(t *testing.T) {
	d := dice(3)
	kept, won := 0, 0
	grown(t, 200, 30, steady, func(u *truth.Truth, l []api.Package, state []int, r api.Rich) {
		more := append(slices.Clone(state), d.state(len(l))...)
		less, greater := u.Satisfies(state, r), u.Satisfies(more, r)
		switch {
		case less && !greater:
			t.Errorf("%v satisfies %s, and %v does not", state, text(r), more)
		case less:
			kept++
		case greater:
			won++
		}
		for n := range l {
			if u.Without(more, n, r) && !greater || u.Alone(n, r) && !u.Satisfies(append(more, n), r) {
				t.Errorf("%v does not satisfy %s, but without, or only with, %d", more, text(r), n)
			}
		}
	})
	if kept < 1000 || won < 300 {
		t.Errorf("%d and %d: too few", kept, won)
	}
}

// P14.3: with an If, or an Unless, a state with more packages may satisfy less.
func TestNotMonotone(t *testing.T) {
	u := over(t, having("a", "x"), having("b", "y"))
	for s, state := range map[string][]int{"(x if y)": nil, "(other if y else x)": {0}, "(x unless y)": {0}, "(x unless y else other)": {0}, "((x unless y) or other)": {0}} {
		if r := read(t, s); !u.Satisfies(state, r) || u.Satisfies(append(state, 1), r) {
			t.Errorf("%s: %v, %v", s, u.Satisfies(state, r), u.Satisfies(append(state, 1), r))
		}
	}
}

// tell is all that a truth of so many packages tells of a state and a rich dependency.
func tell(u *truth.Truth, count int, state []int, r api.Rich) []int {
	bit := func(yes bool) int {
		if yes {
			return 1
		}
		return 0
	}
	l := append([]int{bit(u.Satisfies(state, r))}, u.Who(state, r)...)
	for n := -1; n <= count; n++ {
		l = append(l, bit(u.Without(state, n, r)), bit(u.Alone(n, r)))
	}
	return l
}

// P14.4: If, and Unless, of two.
func TestOfTwo(t *testing.T) {
	told := map[[2]bool]int{}
	d := dice(7)
	grown(t, 150, 30, kinds, func(u *truth.Truth, l []api.Package, state []int, a api.Rich) {
		b := d.grow(6, 3, kinds)
		if shape.Count(a)+shape.Count(b) >= api.MaxNodes || shape.Depth(a) == api.MaxNest {
			return
		}
		first, second := u.Satisfies(state, a), u.Satisfies(state, b)
		if u.Satisfies(state, of(api.If, a, b)) != (first || !second) {
			t.Errorf("%v: %s if %s", state, text(a), text(b))
		}
		if u.Satisfies(state, of(api.Unless, a, b)) != (first && !second) {
			t.Errorf("%v: %s unless %s", state, text(a), text(b))
		}
		for n := range l {
			first, second := u.Without(state, n, a), u.Without(state, n, b)
			if u.Without(state, n, of(api.If, a, b)) != (first || !second) || u.Without(state, n, of(api.Unless, a, b)) != (first && !second) {
				t.Errorf("%v without %d: %s, %s", state, n, text(a), text(b))
			}
		}
		told[[2]bool{first, second}]++
	})
	for _, first := range []bool{false, true} {
		for _, second := range []bool{false, true} {
			if n := told[[2]bool{first, second}]; n < 200 {
				t.Errorf("%v, %v: %d: too few", first, second, n)
			}
		}
	}
}

// P14.4: with an else a state satisfies If of a, b, c exactly where it satisfies Unless of c, b, a.
func TestElse(t *testing.T) {
	told := map[[3]bool]int{}
	d := dice(9)
	grown(t, 130, 30, kinds, func(u *truth.Truth, l []api.Package, state []int, a api.Rich) {
		b, c := d.grow(6, 3, kinds), d.grow(6, 3, kinds)
		if shape.Count(a)+shape.Count(b)+shape.Count(c) >= api.MaxNodes || shape.Depth(a) == api.MaxNest {
			return
		}
		x, y := of(api.If, a, b, c), of(api.Unless, c, b, a)
		if !slices.Equal(tell(u, len(l), state, x), tell(u, len(l), state, y)) {
			t.Errorf("%v: %s, %s", state, text(x), text(y))
		}
		three := [3]bool{u.Satisfies(state, a), u.Satisfies(state, b), u.Satisfies(state, c)}
		want := three[2]
		if three[1] {
			want = three[0]
		}
		if u.Satisfies(state, x) != want {
			t.Errorf("%v satisfies %s: want %v", state, text(x), want)
		}
		told[three]++
	})
	for i := range 8 {
		three := [3]bool{i&1 != 0, i&2 != 0, i&4 != 0}
		if n := told[three]; n < 100 {
			t.Errorf("%v: %d: too few", three, n)
		}
	}
}

// P14.4: And, Or and With do not depend on the order of their Args.
func TestAnyOrder(t *testing.T) {
	d := dice(11)
	told := map[bool]int{}
	grown(t, 70, 30, kinds, func(u *truth.Truth, l []api.Package, state []int, a api.Rich) {
		args := []api.Rich{a}
		for range 1 + d.roll(3) {
			args = append(args, d.grow(4, 2, kinds))
		}
		for _, kind := range []uint8{api.And, api.Or, api.With} {
			r := of(kind, args...)
			other := of(kind, slices.Clone(args)...)
			for i := range other.Args {
				j := i + d.roll(len(other.Args)-i)
				other.Args[i], other.Args[j] = other.Args[j], other.Args[i]
			}
			if !slices.Equal(tell(u, len(l), state, r), tell(u, len(l), state, other)) {
				t.Errorf("%v: %s, %s", state, text(r), text(other))
			}
			told[u.Satisfies(state, r)]++
		}
	})
	if told[true] < 1000 || told[false] < 1000 {
		t.Errorf("%v: too few", told)
	}
}

// P14.5: a With, a Without and an Atom are satisfied exactly if Who is not empty.
func TestSomeAlone(t *testing.T) {
	told := map[bool]int{}
	grown(t, 150, 60, kinds, func(u *truth.Truth, l []api.Package, state []int, r api.Rich) {
		yes, who := u.Satisfies(state, r), u.Who(state, r)
		switch r.Kind {
		case api.With, api.Without, api.Atom:
			if yes != (len(who) > 0) {
				t.Errorf("%v satisfies %s: %v, and of it do %v", state, text(r), yes, who)
			}
			told[yes]++
		}
	})
	if told[true] < 1000 || told[false] < 1000 {
		t.Errorf("%v: too few", told)
	}
}

// P14.5: for a state of one package Satisfies is Alone; and those of a state that alone satisfy something are in increasing order, each once.
func TestOnePackage(t *testing.T) {
	told := map[bool]int{}
	grown(t, 150, 30, kinds, func(u *truth.Truth, l []api.Package, state []int, r api.Rich) {
		who := u.Who(state, r)
		for i, n := range who {
			if i > 0 && who[i-1] >= n {
				t.Errorf("of %v: %v", state, who)
			}
		}
		for n := range l {
			alone := u.Alone(n, r)
			for _, same := range alike([]int{n}, len(l)) {
				if u.Satisfies(same, r) != alone || slices.Contains(u.Who(same, r), n) != alone {
					t.Errorf("%d alone satisfies %s: %v; but %v", n, text(r), alone, same)
				}
			}
			if slices.Contains(who, n) != (alone && slices.Contains(state, n)) {
				t.Errorf("of %v, %v alone satisfy %s; %d: %v", state, who, text(r), n, alone)
			}
			told[alone]++
		}
	})
	if told[true] < 1000 || told[false] < 1000 {
		t.Errorf("%v: too few", told)
	}
}

// P14.6: a state satisfies what is valid at Needs exactly if it does with only those of its packages that provide an Atom that occurs in it.
func TestProviders(t *testing.T) {
	told, left := map[bool]int{}, 0
	grown(t, 300, 60, kinds, func(u *truth.Truth, l []api.Package, state []int, r api.Rich) {
		if shape.May(r, shape.Needs) != api.OK {
			return
		}
		atoms := shape.Atoms(r)
		provider := func(n int) bool {
			return n >= 0 && n < len(l) && slices.ContainsFunc(atoms, func(d api.Dep) bool { return pkg.Provides(l[n], d) })
		}
		only := slices.DeleteFunc(slices.Clone(state), func(n int) bool { return !provider(n) })
		yes := u.Satisfies(state, r)
		if u.Satisfies(only, r) != yes {
			t.Errorf("%v satisfies %s: %v; and %v: %v", state, text(r), yes, only, !yes)
		}
		told[yes]++
		if len(only) < len(state) {
			left++
		}
		for n := range l {
			if !provider(n) && u.Without(state, n, r) != yes {
				t.Errorf("%v satisfies %s: %v; and without %d: %v", state, text(r), yes, n, !yes)
			}
		}
	})
	if told[true] < 1000 || told[false] < 1000 || left < 1000 {
		t.Errorf("%v, %d: too few", told, left)
	}
}

// P14.1: a state is what it has, in whatever row, however often, and whatever numbers of no package there are.
func TestAlike(t *testing.T) {
	grown(t, 100, 10, kinds, func(u *truth.Truth, l []api.Package, state []int, r api.Rich) {
		want := tell(u, len(l), state, r)
		for _, same := range alike(state, len(l)) {
			if got := tell(u, len(l), same, r); !slices.Equal(got, want) {
				t.Errorf("%s: %v: %v, and %v: %v", text(r), state, want, same, got)
			}
		}
	})
}

// copied is a copy that shares no lists.
func copied(r api.Rich) api.Rich {
	r.Args = slices.Clone(r.Args)
	for i := range r.Args {
		r.Args[i] = copied(r.Args[i])
	}
	return r
}

// R1: what is handed in stays as it was, behind the ends of the lists, too.
func TestHandedIn(t *testing.T) {
	grown(t, 100, 20, kinds, func(u *truth.Truth, l []api.Package, state []int, r api.Rich) {
		long := append(slices.Clone(state), 77, -5, 0, 0, 78)
		whole := slices.Clone(long)
		r.Args = append(slices.Clone(r.Args), atom("behind"), atom("the-end"))
		before := copied(r)
		handed := r
		handed.Args = r.Args[:len(r.Args)-2]
		tell(u, len(l), long[:len(state)], handed)
		if !slices.Equal(long, whole) {
			t.Errorf("the state is now %v, of %v", long, whole)
		}
		if !reflect.DeepEqual(r, before) {
			t.Errorf("the rich dependency is now %v, of %v", r, before)
		}
	})
	for what, r := range ill() {
		if what == "one that contains itself" {
			continue
		}
		before, state := copied(r), []int{2, -1, 2, 0}
		tell(over(t, having("a", "x")), 1, state, r)
		if !reflect.DeepEqual(r, before) || !slices.Equal(state, []int{2, -1, 2, 0}) {
			t.Errorf("%s: now %v, %v", what, r, state)
		}
	}
}

// R1: what is told may be changed afterwards, up to its capacity; neither the state nor what is told again hangs on it.
func TestChangedResults(t *testing.T) {
	grown(t, 100, 20, kinds, func(u *truth.Truth, l []api.Package, state []int, r api.Rich) {
		before := slices.Clone(state)
		want := tell(u, len(l), state, r)
		first, second := u.Who(state, r), u.Who(state, r)
		stays := slices.Clone(second)
		_ = append(first, 55)
		first = first[:cap(first)]
		for i := range first {
			first[i] = -7 - i
		}
		if !slices.Equal(second, stays) || !slices.Equal(state, before) {
			t.Errorf("what was told is now %v, of %v; the state %v, of %v", second, stays, state, before)
		}
		if got := tell(u, len(l), state, r); !slices.Equal(got, want) {
			t.Errorf("told again: %v, want %v", got, want)
		}
	})
}

// R1: what was handed in may be changed afterwards, and nothing that is told later hangs on it.
func TestChangedArguments(t *testing.T) {
	u := over(t, having("a", "x"), having("b", "y"))
	r, state := read(t, "(x if y)"), []int{0, 1}
	who := u.Who(state, r)
	want := slices.Clone(who)
	state[0], state[1] = 1, 1
	r.Args[0], r.Args[1] = atom("y"), atom("x")
	if !slices.Equal(who, want) || !slices.Equal(who, []int{0}) {
		t.Errorf("%v, want %v", who, want)
	}
	if got := u.Who(state, r); !slices.Equal(got, []int{1}) {
		t.Errorf("%v", got)
	}
	wantTruth(t, u, []api.Package{having("a", "x"), having("b", "y")}, []int{0, 1}, read(t, "(x if y)"))
}

// R1: what the pool was made of, and the pool itself, may be changed afterwards, and the truth tells the same.
func TestChangedPool(t *testing.T) {
	d := dice(13)
	for _, in := range inputs(60) {
		var l []api.Package
		for _, p := range in.all() {
			l = append(l, pkg.Copy(p))
		}
		u, p := made(t, in)
		other, e := truth.New(p)
		if e != api.OK {
			t.Fatal(e)
		}
		for _, list := range append([][]api.Package{in.installed}, lists(in.repos)...) {
			for i := range list {
				for j := range list[i].Provides {
					list[i].Provides[j].Name = "changed"
				}
				for j := range list[i].Files {
					list[i].Files[j] = "/changed"
				}
				list[i].Name, list[i].EVR.Ver = "changed", "9"
			}
		}
		for n, want := range l {
			if got, e := p.Package(n); e != api.OK || !pkg.Same(got, want) {
				t.Errorf("%d of the pool is now %v, of %v", n, got, want)
			}
		}
		*p = pool.Pool{}
		for range 10 {
			state, r := d.state(len(l)), d.rich(kinds)
			wantTruth(t, u, l, state, r)
			wantTruth(t, other, l, state, r)
		}
	}
}

// lists are the packages of repositories.
func lists(repos []api.Repo) [][]api.Package {
	var l [][]api.Package
	for _, r := range repos {
		l = append(l, r.Packages)
	}
	return l
}

// R1: what is told hangs on nothing that was asked before.
func TestAnyRow(t *testing.T) {
	type question struct {
		state []int
		r     api.Rich
	}
	d := dice(17)
	for _, in := range inputs(60) {
		u, _ := made(t, in)
		fresh, _ := made(t, in)
		count := len(in.all())
		var asked []question
		var told [][]int
		for range 10 {
			q := question{d.state(count), d.rich(kinds)}
			asked, told = append(asked, q), append(told, tell(u, count, q.state, q.r))
		}
		for range 20 {
			i := d.roll(len(asked))
			if got := tell(fresh, count, asked[i].state, asked[i].r); !slices.Equal(got, told[i]) {
				t.Errorf("%v, %s: %v, want %v", asked[i].state, text(asked[i].r), got, told[i])
			}
		}
	}
}

// R1: texts of all sorts are asked about, and long states; each call ends.
func TestAnything(t *testing.T) {
	u := over(t, having("a", "x"), having("b", "y"))
	for _, name := range []string{"", " ", "x ", "\x00", "\xff", "if", "(", "/", longest, longest + "x", strings.Repeat("y", 1<<16)} {
		for op := range 256 {
			r := api.Rich{Kind: api.Atom, Dep: ranged(name, uint8(op), name)}
			if u.Satisfies([]int{0, 1}, r) || u.Alone(0, r) || len(u.Who([]int{0, 1}, r)) != 0 {
				t.Errorf("%.80q, %d: satisfied", name, op)
			}
		}
	}
	state := slices.Repeat([]int{1, -1, 0, 1 << 40}, 1<<16)
	if got := u.Who(state, read(t, "(x or y)")); !slices.Equal(got, []int{0, 1}) {
		t.Errorf("%v", got)
	}
	if r := read(t, "(x and y)"); !u.Satisfies(state, r) || u.Without(state, 1, r) {
		t.Errorf("of a long state: %v, %v", u.Satisfies(state, r), u.Without(state, 1, r))
	}
}
