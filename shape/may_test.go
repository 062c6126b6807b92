package shape_test

import (
	"slices"
	"strings"
	"testing"

	"chandlery/api"
	"chandlery/shape"
)

// wantMay asks May for this, at Needs, at Clash and at Weak.
func wantMay(t *testing.T, what string, r api.Rich, needs, clash, weak api.Errno) {
	t.Helper()
	for i, want := range []api.Errno{needs, clash, weak} {
		if e := shape.May(r, positions[i]); e != want {
			t.Errorf("%s: May at %d: %v, want %v", what, positions[i], e, want)
		}
	}
}

// wantAll asks May for the same at all positions.
func wantAll(t *testing.T, what string, r api.Rich, want api.Errno) {
	t.Helper()
	wantMay(t, what, r, want, want, want)
}

// wantKind asks May for what the Kind of a part allows that is valid otherwise.
func wantKind(t *testing.T, what string, kind uint8, r api.Rich) {
	t.Helper()
	switch kind {
	case api.If:
		wantMay(t, what, r, api.OK, api.ErrForm, api.ErrForm)
	case api.Unless:
		wantMay(t, what, r, api.OK, api.OK, api.ErrForm)
	default:
		wantAll(t, what, r, api.OK)
	}
}

// P9.1: the chapter's examples.
func TestExamples(t *testing.T) {
	bash := atom("bash")
	wantAll(t, "an Atom of bash", bash, api.OK)
	if shape.Depth(bash) != 0 {
		t.Errorf("the depth of an Atom: %d", shape.Depth(bash))
	}
	wantMay(t, "an If of two", of(api.If, bash, atom("b")), api.OK, api.ErrForm, api.ErrForm)
	wantAll(t, "a With of an Unless", of(api.With, of(api.Unless, atom("a"), atom("b")), atom("c")), api.ErrForm)
	wantAll(t, "an And of one", of(api.And, bash), api.ErrForm)
}

// P9.1: the positions' numbers.
func TestPositions(t *testing.T) {
	if shape.Needs != 1 || shape.Clash != 2 || shape.Weak != 3 {
		t.Errorf("%d, %d, %d", shape.Needs, shape.Clash, shape.Weak)
	}
}

// P9.1: an Atom has a valid Dep.
func TestDeps(t *testing.T) {
	for _, r := range []api.Rich{
		atom("a"), atom("/usr/bin/sh"), atom("If"), atom(longest),
		ranged("a", api.Less, api.EVR{Ver: "1"}), ranged("a", api.Less|api.Equal, api.EVR{Ver: "1"}), ranged("a", api.Equal, api.EVR{Ver: "if"}),
		ranged("a", api.Greater, api.EVR{Epoch: api.MaxEpoch, Ver: longest, Rel: longest}), ranged("a", api.Greater|api.Equal, api.EVR{Ver: "1", Rel: "2"}),
	} {
		wantAll(t, "an Atom of "+r.Dep.Name, r, api.OK)
		for _, kind := range kinds {
			wantKind(t, "an Atom as an Arg", kind, of(kind, r, r))
		}
	}
	for _, d := range []api.Dep{
		{},
		{Name: "and"}, {Name: "or"}, {Name: "if"}, {Name: "else"}, {Name: "unless"}, {Name: "with"}, {Name: "without"},
		{Name: "("}, {Name: "a b"}, {Name: ">="}, {Name: "\xff"}, {Name: longest + "x"}, {Name: strings.Repeat("x", 1<<20)},
		{Name: "a", Op: api.Equal}, {Name: "a", EVR: api.EVR{Ver: "1"}}, {Name: "a", EVR: api.EVR{Epoch: 1}}, {Name: "a", EVR: api.EVR{Rel: "1"}},
		{Name: "a", Op: api.Less | api.Greater, EVR: api.EVR{Ver: "1"}}, {Name: "a", Op: 8, EVR: api.EVR{Ver: "1"}},
		{Name: "/a", Op: api.Equal, EVR: api.EVR{Ver: "1"}},
		{Op: api.Equal, EVR: api.EVR{Ver: "1"}},
		{Name: "a", Op: api.Equal, EVR: api.EVR{Epoch: -1, Ver: "1"}},
		{Name: "a", Op: api.Equal, EVR: api.EVR{Ver: "1 "}},
		{Name: "a", Op: api.Equal, EVR: api.EVR{Ver: "1", Rel: ")"}},
	} {
		bad := api.Rich{Kind: api.Atom, Dep: d}
		wantAll(t, "an Atom with a wrong Dep", bad, api.ErrForm)
		for _, kind := range kinds {
			wantAll(t, "a wrong first Arg", of(kind, bad, atom("b")), api.ErrForm)
			wantAll(t, "a wrong second Arg", of(kind, atom("b"), bad), api.ErrForm)
			wantAll(t, "a wrong third Arg", of(kind, atom("b"), atom("c"), bad), api.ErrForm)
			wantAll(t, "a wrong Arg of an Arg", of(kind, atom("b"), of(kind, atom("c"), bad)), api.ErrForm)
		}
	}
}

// P9.1: an Atom has no Args.
func TestArgsBesideDep(t *testing.T) {
	for n := 1; n < 4; n++ {
		wantAll(t, "an Atom with Args", both(api.Atom, "a", atoms(n)...), api.ErrForm)
		wantAll(t, "an Atom with Args alone", of(api.Atom, atoms(n)...), api.ErrForm)
		for _, kind := range kinds {
			wantAll(t, "an Arg that is an Atom with Args", of(kind, atom("b"), both(api.Atom, "a", atoms(n)...)), api.ErrForm)
		}
	}
	wantAll(t, "an Atom with an empty Arg", both(api.Atom, "a", api.Rich{}), api.ErrForm)
	wantAll(t, "an Atom with an empty list", api.Rich{Kind: api.Atom, Dep: api.Dep{Name: "a"}, Args: []api.Rich{}}, api.OK)
	wantAll(t, "an Atom with a list of none", api.Rich{Kind: api.Atom, Dep: api.Dep{Name: "a"}, Args: make([]api.Rich, 0, 9)}, api.OK)
	wantAll(t, "an Atom with an Atom that is as deep as may not be", both(api.Atom, "a", nested(atom("b"), api.And, api.MaxNest+1, false)), api.ErrForm)
}

// P9.1: all others have an empty Dep.
func TestDepBesideArgs(t *testing.T) {
	for _, d := range []api.Dep{{Name: "a"}, {Name: "("}, {Op: api.Equal}, {EVR: api.EVR{Epoch: 1}}, {EVR: api.EVR{Ver: "1"}}, {EVR: api.EVR{Rel: "1"}}, {Name: "a", Op: api.Less, EVR: api.EVR{Ver: "1"}}} {
		for _, kind := range kinds {
			r := api.Rich{Kind: kind, Dep: d, Args: atoms(2)}
			wantAll(t, "a Dep beside Args", r, api.ErrForm)
			wantAll(t, "a Dep in place of Args", api.Rich{Kind: kind, Dep: d}, api.ErrForm)
			for _, outer := range kinds {
				wantAll(t, "a Dep beside the Args of an Arg", of(outer, atom("b"), r), api.ErrForm)
				wantAll(t, "a Dep beside the Args of the first Arg", of(outer, r, atom("b")), api.ErrForm)
			}
		}
	}
}

// P9.1: how many Args each Kind has, at each position, from none to more than may be.
func TestNumbersOfArgs(t *testing.T) {
	most := map[uint8]int{api.And: 23, api.Or: 23, api.If: 3, api.Unless: 3, api.With: 23, api.Without: 2}
	for _, kind := range kinds {
		for n := range 40 {
			r := of(kind, atoms(n)...)
			switch {
			case n >= 24:
				wantAll(t, "too many parts", r, api.ErrTooLarge)
			case n < 2 || n > most[kind]:
				wantAll(t, "a wrong number of Args", r, api.ErrForm)
			default:
				wantKind(t, "a right number of Args", kind, r)
			}
			if n >= 22 {
				wantAll(t, "too many parts of an Arg", of(api.And, atom("b"), r), api.ErrTooLarge)
				continue
			}
			for _, whole := range []api.Rich{of(api.And, atom("b"), r), of(api.Or, r, atom("b"))} {
				if n < 2 || n > most[kind] {
					wantAll(t, "a wrong number of Args of an Arg", whole, api.ErrForm)
				} else {
					wantKind(t, "a right number of Args of an Arg", kind, whole)
				}
			}
		}
	}
}

// P9.1: all 256 numbers as Kinds, with a Dep, with Args, with both, with nothing.
func TestKinds(t *testing.T) {
	wantAll(t, "nothing", api.Rich{}, api.ErrForm)
	for n := range 256 {
		kind := uint8(n)
		wantAll(t, "nothing but a Kind", api.Rich{Kind: kind}, api.ErrForm)
		wantAll(t, "a Dep and Args", both(kind, "a", atoms(2)...), api.ErrForm)
		if kind != api.Atom {
			wantAll(t, "a Kind other than Atom, with a Dep", both(kind, "a"), api.ErrForm)
		}
		if kind != api.Atom && !slices.Contains(kinds, kind) {
			for args := range 5 {
				wantAll(t, "a Kind that there is not", of(kind, atoms(args)...), api.ErrForm)
				wantAll(t, "an Arg of a Kind that there is not", of(api.And, atom("b"), of(kind, atoms(args)...)), api.ErrForm)
				wantAll(t, "an Arg, with a Dep, of a Kind that there is not", of(api.With, both(kind, "a", atoms(args)...), atom("b")), api.ErrForm)
			}
		}
	}
}

// P9.1: all 256 numbers as positions: ErrArg, whatever else is wrong.
func TestNoPosition(t *testing.T) {
	self := of(api.And, make([]api.Rich, 2)...)
	self.Args[0], self.Args[1] = self, self
	for _, r := range []api.Rich{
		atom("a"), of(api.And, atoms(2)...), of(api.If, atoms(2)...), {}, of(api.And, atom("a")), {Kind: 200},
		of(api.And, atoms(24)...), nested(atom("a"), api.And, 9, false), nested(atom("a"), api.And, 30, false), self,
	} {
		for n := range 256 {
			where := uint8(n)
			if e := shape.May(r, where); (e == api.ErrArg) == slices.Contains(positions, where) {
				t.Errorf("May at %d: %v", where, e)
			}
		}
	}
}

// P9.1: as many parts as may be, and one more, side by side and nested.
func TestNumberOfParts(t *testing.T) {
	for _, kind := range []uint8{api.And, api.Or, api.With} {
		wantAll(t, "as many as may be", of(kind, atoms(api.MaxNodes-1)...), api.OK)
		wantAll(t, "one too many", of(kind, atoms(api.MaxNodes)...), api.ErrTooLarge)
		for depth := 1; depth <= api.MaxNest; depth++ {
			r := nested(atom("a"), kind, depth, true) // 1 + 2*depth parts
			r.Args = append(r.Args, atoms(api.MaxNodes-1-2*depth)...)
			wantAll(t, "as many as may be, nested", r, api.OK)
			r.Args = append(r.Args, atom("more"))
			wantAll(t, "one too many, the last one", r, api.ErrTooLarge)
			slices.Reverse(r.Args)
			wantAll(t, "one too many, the first one", r, api.ErrTooLarge)
			r.Args = r.Args[1:]
			wantAll(t, "as many as may be, nested in the last one", r, api.OK)
		}
	}
	wantAll(t, "as many as may be in two Args", of(api.Or, of(api.And, atoms(10)...), of(api.And, atoms(11)...)), api.OK)
	wantAll(t, "one too many in the second Arg", of(api.Or, of(api.And, atoms(10)...), of(api.And, atoms(12)...)), api.ErrTooLarge)
	wantAll(t, "one too many in the first Arg", of(api.Or, of(api.And, atoms(11)...), of(api.And, atoms(11)...)), api.ErrTooLarge)
	for _, kind := range []uint8{api.If, api.Unless, api.Without} {
		wantKind(t, "as many as may be of an Arg", kind, of(kind, atom("a"), of(api.And, atoms(21)...)))
		wantAll(t, "one too many of an Arg", of(kind, atom("a"), of(api.And, atoms(22)...)), api.ErrTooLarge)
	}
}

// P9.1: as deep as may be, and deeper.
func TestDepths(t *testing.T) {
	for _, kind := range kinds {
		for _, first := range []bool{false, true} {
			for depth := range 30 {
				r := nested(atom("a"), kind, depth, first)
				switch {
				case 1+2*depth > api.MaxNodes:
					wantAll(t, "too deep, and too large", r, api.ErrTooLarge)
				case depth > api.MaxNest:
					wantAll(t, "too deep", r, api.ErrDeep)
				case depth == 0:
					wantAll(t, "not deep", r, api.OK)
				default:
					wantKind(t, "deep", kind, r)
				}
			}
		}
	}
	for i := range 5 {
		args := atoms(5)
		args[i] = nested(atom("a"), api.Or, api.MaxNest-1, i%2 == 0)
		wantAll(t, "as deep as may be in one Arg", of(api.And, args...), api.OK)
		args[i] = nested(atom("a"), api.Or, api.MaxNest, i%2 == 0)
		wantAll(t, "too deep in one Arg", of(api.And, args...), api.ErrDeep)
	}
	empty := api.Rich{Kind: api.And} // without Args: 1
	wantAll(t, "an And of none, as deep as may be", nested(empty, api.And, api.MaxNest-1, false), api.ErrForm)
	wantAll(t, "an And of none, too deep", nested(empty, api.And, api.MaxNest, false), api.ErrDeep)
	wantAll(t, "a Kind that there is not, as deep as may be", nested(api.Rich{}, api.And, api.MaxNest-1, false), api.ErrForm)
	wantAll(t, "a Kind that there is not, too deep", nested(api.Rich{}, api.And, api.MaxNest, false), api.ErrDeep)
	wantAll(t, "an Atom with Args, as deep as may be", nested(both(api.Atom, "a", of(api.And, atoms(2)...)), api.And, api.MaxNest, false), api.ErrForm)
}

// P9.1: where several errors would do, the one that the chapter names first.
func TestErrorsInOrder(t *testing.T) {
	wrong := []api.Rich{{}, atom("if"), of(api.And, atom("a")), both(api.Or, "a", atoms(2)...), both(api.Atom, "a", atoms(1)...), {Kind: 9}}
	for _, bad := range wrong {
		wantAll(t, "wrong", bad, api.ErrForm)
		wantAll(t, "wrong and deep", nested(bad, api.And, api.MaxNest+1, false), api.ErrDeep)
		wantAll(t, "wrong and large", of(api.And, append(atoms(23), bad)...), api.ErrTooLarge)
		wantAll(t, "wrong, and first, and large", of(api.And, append([]api.Rich{bad}, atoms(23)...)...), api.ErrTooLarge)
		wantAll(t, "wrong, deep and large", of(api.And, append(atoms(23), nested(bad, api.With, 9, true))...), api.ErrTooLarge)
		wantAll(t, "wrong, deep and large, one Arg in another", nested(bad, api.And, 12, false), api.ErrTooLarge)
		wantAll(t, "wrong, and then deep", of(api.And, bad, nested(atom("a"), api.And, 8, true)), api.ErrDeep)
		wantAll(t, "deep, and then wrong", of(api.And, nested(atom("a"), api.And, 8, true), bad), api.ErrDeep)
	}
	wantAll(t, "parts of an Atom, too many", both(api.Atom, "a", atoms(24)...), api.ErrTooLarge)
	wantAll(t, "parts of an Atom, as many as may be", both(api.Atom, "a", atoms(23)...), api.ErrForm)
	wantAll(t, "parts of a Kind that there is not, too many", of(77, atoms(24)...), api.ErrTooLarge)
	wantAll(t, "an If that is deep", nested(atom("a"), api.If, api.MaxNest+1, true), api.ErrDeep)
	wantAll(t, "an If within a With that is deep", of(api.With, nested(atom("a"), api.If, api.MaxNest, true), atom("b")), api.ErrDeep)
}

// P9.1: an If, and an Unless, with two Args and with three, at each place within a With and a Without, directly and further in.
func TestWithin(t *testing.T) {
	for _, kind := range []uint8{api.If, api.Unless} {
		for n := 2; n <= 3; n++ {
			inner := of(kind, atoms(n)...)
			for _, part := range []api.Rich{inner, of(api.And, inner, atom("a")), of(api.Or, atom("a"), inner), of(api.And, atom("a"), of(api.Or, atom("b"), inner, atom("c")))} {
				wantWithin(t, kind, part)
			}
		}
	}
}

// wantWithin puts a part, in which the Kind stands, at each place of a With and a Without, and of what is in these or around them.
func wantWithin(t *testing.T, kind uint8, part api.Rich) {
	t.Helper()
	wantKind(t, "alone", kind, part)
	for _, outer := range []uint8{api.With, api.Without} {
		for n := 2; n <= 4 && (n == 2 || outer == api.With); n++ {
			for i := range n {
				args := atoms(n)
				args[i] = part
				with := of(outer, args...)
				wantAll(t, "within", with, api.ErrForm)
				wantAll(t, "within, further in", of(api.And, atom("x"), with), api.ErrForm)
				wantAll(t, "within, in a Without", of(api.Without, with, atom("x")), api.ErrForm)
				wantAll(t, "within, in a With", of(api.With, atom("x"), with), api.ErrForm)
				wantAll(t, "within, in an If", of(api.If, with, atom("x")), api.ErrForm)
			}
			with := of(outer, atoms(n)...)
			wantKind(t, "beside, behind", kind, of(api.And, with, part))
			wantKind(t, "beside, ahead", kind, of(api.Or, part, with))
		}
	}
	for _, around := range []uint8{api.With, api.Without} {
		with := of(around, of(api.And, atoms(2)...), of(api.Or, of(api.With, atoms(3)...), of(api.Without, atoms(2)...)))
		wantAll(t, "And, Or, With, Without within", with, api.OK)
		for i := range 2 {
			args := []api.Rich{part, part}
			args[i] = with
			wantKind(t, "around", kind, of(kind, args...))
		}
		wantKind(t, "around, with three", kind, of(kind, part, of(around, atoms(2)...), atom("x")))
	}
}

// P9.1: held against what is found by other means, for all small ones and many grown ones.
func TestMayAny(t *testing.T) {
	n := map[api.Errno]int{}
	eachAny(20000, func(r api.Rich) {
		parts := partsBy(r)
		for where := range uint8(5) {
			want := mayBy(parts, where)
			n[want]++
			if e := shape.May(r, where); e != want {
				t.Errorf("May(%v, %d): %v, want %v", r, where, e, want)
			}
		}
	})
	for _, e := range []api.Errno{api.OK, api.ErrArg, api.ErrForm, api.ErrDeep, api.ErrTooLarge} {
		if n[e] < 5000 {
			t.Errorf("%v: only %d times", e, n[e])
		}
	}
}

// R1: what contains itself, what is very deep, very wide, or both, is refused, and that soon.
func TestMayEndless(t *testing.T) {
	for kind := range uint8(9) {
		for n := 1; n < 5; n++ {
			args := make([]api.Rich, n)
			for i := range args {
				args[i] = api.Rich{Kind: kind, Args: args}
			}
			wantAll(t, "what contains itself", of(kind, args...), api.ErrTooLarge)
			wantAll(t, "what contains itself, as an Arg", of(api.And, atom("a"), of(kind, args...)), api.ErrTooLarge)
			wantAll(t, "what contains itself, in an Atom", both(api.Atom, "a", args...), api.ErrTooLarge)
		}
		wantAll(t, "very deep", nested(atom("a"), kind, 1<<16-1, false), api.ErrTooLarge)
		wantAll(t, "very deep", nested(atom("a"), kind, 1<<16-1, true), api.ErrTooLarge)
		wide := of(kind, slices.Repeat(atoms(1), 1<<18)...)
		wantAll(t, "very wide", wide, api.ErrTooLarge)
		for range 60 {
			wide = of(kind, wide, wide, wide)
		}
		wantAll(t, "very wide and deep", wide, api.ErrTooLarge)
	}
}
