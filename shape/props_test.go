package shape_test

import (
	"slices"
	"testing"

	"chandlery/api"
	"chandlery/shape"
)

// valid says whether one is valid at a position.
func valid(r api.Rich, where uint8) bool { return shape.May(r, where) == api.OK }

// P9.3: what is valid at Weak is valid at Clash, what is valid at Clash is valid at Needs; and each of them allows something that the next one does not.
func TestPositionsInRow(t *testing.T) {
	n := [4]int{}
	eachAny(20000, func(r api.Rich) {
		last := 0
		for i, where := range positions {
			if valid(r, where) {
				if last != i {
					t.Errorf("%v: valid at %d, and not ahead of it", r, where)
				}
				last = i + 1
			}
		}
		n[last]++
	})
	for i, times := range n {
		if times < 500 {
			t.Errorf("only %d are valid at just %d positions", times, i)
		}
	}
}

// P9.4: the parts of what is valid at a position are valid there.
func TestParts(t *testing.T) {
	n := 0
	eachAny(10000, func(r api.Rich) {
		for _, where := range positions {
			if !valid(r, where) {
				continue
			}
			for _, p := range partsBy(r) {
				n++
				if !valid(p.r, where) {
					t.Errorf("%v, a part of %v, is not valid at %d", p.r, r, where)
				}
			}
		}
	})
	if n < 50000 {
		t.Errorf("%d parts: too few", n)
	}
}

// twos are valid ones at Needs, of which twos are made: small ones, large ones and deep ones, with an If and an Unless, and without.
func twos() []api.Rich {
	l := []api.Rich{
		atom("a"), ranged("b", api.Greater, api.EVR{Ver: "1"}),
		of(api.And, atoms(10)...), of(api.With, atoms(11)...), of(api.Or, atoms(21)...), of(api.And, atoms(22)...),
		of(api.If, atoms(2)...), of(api.If, atoms(3)...), of(api.Unless, atoms(2)...), of(api.Unless, atoms(3)...),
		nested(atom("a"), api.And, 7, true), nested(atom("a"), api.With, 7, false), nested(atom("a"), api.Or, 8, true), nested(atom("a"), api.If, 7, true), nested(atom("a"), api.Unless, 8, true),
		nested(of(api.If, atoms(2)...), api.And, 3, false), nested(of(api.Unless, atoms(2)...), api.Or, 3, true),
	}
	for _, kind := range kinds {
		l = append(l, of(kind, of(api.Without, atoms(2)...), of(api.With, atoms(3)...)))
	}
	var d dice
	for len(l) < 150 {
		if r := d.whole(); valid(r, shape.Needs) {
			l = append(l, r)
		}
	}
	return l
}

// wantTwo asks for what a part of two valid ones is at Needs.
func wantTwo(t *testing.T, kind uint8, a, b api.Rich) api.Errno {
	t.Helper()
	want := api.OK
	switch {
	case 1+shape.Count(a)+shape.Count(b) > api.MaxNodes:
		want = api.ErrTooLarge
	case 1+max(shape.Depth(a), shape.Depth(b)) > api.MaxNest:
		want = api.ErrDeep
	case (kind == api.With || kind == api.Without) && (conditional(a) || conditional(b)):
		want = api.ErrForm
	}
	if e := shape.May(of(kind, a, b), shape.Needs); e != want {
		t.Errorf("Kind %d of %v and %v: %v, want %v", kind, a, b, e, want)
	}
	return want
}

// conditional says whether there is an If or an Unless in it.
func conditional(r api.Rich) bool {
	return slices.ContainsFunc(partsBy(r), func(p part) bool { return p.r.Kind == api.If || p.r.Kind == api.Unless })
}

// P9.5: an Or, an And, an Unless, and so on, of two valid ones is valid, at Needs, if it is not too large, nor too deep; a With exactly if, besides, both contain neither If nor Unless.
func TestComposition(t *testing.T) {
	n := map[api.Errno]int{}
	l := twos()
	for _, r := range l {
		if !valid(r, shape.Needs) {
			t.Fatalf("%v: not valid", r)
		}
	}
	for _, a := range l {
		for _, b := range l {
			for _, kind := range kinds {
				n[wantTwo(t, kind, a, b)]++
			}
		}
	}
	for _, e := range []api.Errno{api.OK, api.ErrForm, api.ErrDeep, api.ErrTooLarge} {
		if n[e] < 500 {
			t.Errorf("%v: only %d times", e, n[e])
		}
	}
}

// P9.6: Count is one more than the sum of the Counts of the Args; Atoms are those of the Args, one after another; there are at most Count of them.
func TestCounting(t *testing.T) {
	eachAny(5000, func(r api.Rich) {
		sum, l := 1, []api.Dep{}
		if r.Kind == api.Atom {
			l = append(l, r.Dep)
		}
		for _, arg := range r.Args {
			sum += shape.Count(arg)
			l = append(l, shape.Atoms(arg)...)
		}
		if n := shape.Count(r); n != sum || len(l) > n {
			t.Errorf("Count(%v): %d, want %d, for %d Atoms", r, n, sum, len(l))
		}
		if got := shape.Atoms(r); !slices.Equal(got, l) {
			t.Errorf("Atoms(%v): %v, want %v", r, got, l)
		}
	})
}

// P9.7: a copy is the same; of two that are the same, either both are valid or neither.
func TestEquality(t *testing.T) {
	check := func(r api.Rich) {
		for _, other := range []api.Rich{shape.Copy(r), copied(r), emptied(r), shape.Copy(emptied(r))} {
			if !shape.Same(r, other) || !shape.Same(other, r) {
				t.Errorf("Same(%v, %v): false", r, other)
			}
			wantLike(t, "a copy", r, other)
		}
	}
	for _, c := range some {
		check(c.r)
	}
	grown(5000, check)
}

// P9.7: Same is symmetric, and every one is the same as itself; what is the same as a third is the same.
func TestSymmetry(t *testing.T) {
	var l []api.Rich
	for _, c := range some {
		l = append(l, c.r, emptied(c.r))
	}
	grown(60, func(r api.Rich) { l = append(l, r) })
	for _, a := range l {
		if !shape.Same(a, a) {
			t.Errorf("%v: not the same as itself", a)
		}
		for _, b := range l {
			if shape.Same(a, b) != shape.Same(b, a) {
				t.Errorf("Same of %v and %v: not symmetric", a, b)
			}
			if !shape.Same(a, b) {
				continue
			}
			for _, c := range l {
				if shape.Same(a, c) != shape.Same(b, c) {
					t.Errorf("%v and %v: only one is the same as %v", a, b, c)
				}
			}
		}
	}
}
