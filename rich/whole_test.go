package rich_test

import (
	"reflect"
	"slices"
	"strings"
	"testing"

	"chandlery/api"
	"chandlery/dep"
	"chandlery/lex"
	"chandlery/rich"
)

// longest is a name, a version and a release of the greatest length.
var longest = strings.Repeat("x", api.MaxName)

// atom is an Atom of any version.
func atom(name string) api.Rich { return api.Rich{Kind: api.Atom, Dep: api.Dep{Name: name}} }

// ranged is an Atom of a range of versions.
func ranged(name string, op uint8, e api.EVR) api.Rich {
	return api.Rich{Kind: api.Atom, Dep: api.Dep{Name: name, Op: op, EVR: e}}
}

// of is a part with these Args.
func of(kind uint8, args ...api.Rich) api.Rich { return api.Rich{Kind: kind, Args: args} }

// atoms are so many Atoms, of unlike names.
func atoms(n int) []api.Rich {
	var l []api.Rich
	for i := range n {
		l = append(l, atom("p"+string(rune('a'+i%26))+string(rune('0'+i/26))))
	}
	return l
}

// nested is an Atom in so many parentheses, each with one more Arg; first: it is the first Arg of each.
func nested(kind uint8, depth int, first bool) api.Rich {
	r := atom("core")
	for range depth {
		args := []api.Rich{atom("s"), r}
		if first {
			slices.Reverse(args)
		}
		r = of(kind, args...)
	}
	return r
}

// kinds are the Kinds that have Args.
var kinds = []uint8{api.And, api.Or, api.If, api.Unless, api.With, api.Without}

// some are well-formed rich dependencies, with their words and their texts.
var some = []struct {
	r api.Rich
	l []string
	s string
}{
	{atom("a"), []string{"a"}, "a"},
	{atom("/usr/bin/sh"), []string{"/usr/bin/sh"}, "/usr/bin/sh"},
	{atom(longest), []string{longest}, longest},
	{ranged("b", api.Less, api.EVR{Ver: "1"}), []string{"b", "<", "1"}, "b < 1"},
	{ranged("b", api.Equal, api.EVR{Ver: "1"}), []string{"b", "=", "1"}, "b = 1"},
	{ranged("b", api.Greater, api.EVR{Ver: "1"}), []string{"b", ">", "1"}, "b > 1"},
	{ranged("b", api.Less|api.Equal, api.EVR{Ver: "1"}), []string{"b", "<=", "1"}, "b <= 1"},
	{ranged("b", api.Greater|api.Equal, api.EVR{Epoch: 2, Ver: "1.4", Rel: "1"}), []string{"b", ">=", "2:1.4-1"}, "b >= 2:1.4-1"},
	{ranged("If", api.Equal, api.EVR{Ver: "if", Rel: "else"}), []string{"If", "=", "if-else"}, "If = if-else"},
	{of(api.And, atom("a"), atom("b")), []string{"(", "a", "and", "b", ")"}, "(a and b)"},
	{of(api.Or, atom("a"), atom("b")), []string{"(", "a", "or", "b", ")"}, "(a or b)"},
	{of(api.If, atom("a"), atom("b")), []string{"(", "a", "if", "b", ")"}, "(a if b)"},
	{of(api.Unless, atom("a"), atom("b")), []string{"(", "a", "unless", "b", ")"}, "(a unless b)"},
	{of(api.With, atom("a"), atom("b")), []string{"(", "a", "with", "b", ")"}, "(a with b)"},
	{of(api.Without, atom("a"), atom("b")), []string{"(", "a", "without", "b", ")"}, "(a without b)"},
	{of(api.And, atom("a"), atom("b"), atom("c")), []string{"(", "a", "and", "b", "and", "c", ")"}, "(a and b and c)"},
	{of(api.Or, atom("a"), atom("b"), atom("c")), []string{"(", "a", "or", "b", "or", "c", ")"}, "(a or b or c)"},
	{of(api.If, atom("a"), atom("b"), atom("c")), []string{"(", "a", "if", "b", "else", "c", ")"}, "(a if b else c)"},
	{of(api.Unless, atom("a"), atom("b"), atom("c")), []string{"(", "a", "unless", "b", "else", "c", ")"}, "(a unless b else c)"},
	{of(api.With, atom("a"), atom("b"), atom("c")), []string{"(", "a", "with", "b", "with", "c", ")"}, "(a with b with c)"},
	{of(api.And, atom("a"), atom("b"), atom("c"), atom("d")), []string{"(", "a", "and", "b", "and", "c", "and", "d", ")"}, "(a and b and c and d)"},
	{of(api.And, atom("a"), ranged("b", api.Greater|api.Equal, api.EVR{Ver: "1"})), []string{"(", "a", "and", "b", ">=", "1", ")"}, "(a and b >= 1)"},
	{of(api.If, atom("a"), atom("b"), of(api.Or, atom("c"), atom("d"))), []string{"(", "a", "if", "b", "else", "(", "c", "or", "d", ")", ")"}, "(a if b else (c or d))"},
	{of(api.And, of(api.And, atom("a"), atom("b")), atom("c")), []string{"(", "(", "a", "and", "b", ")", "and", "c", ")"}, "((a and b) and c)"},
	{of(api.And, atom("a"), of(api.And, atom("b"), atom("c"))), []string{"(", "a", "and", "(", "b", "and", "c", ")", ")"}, "(a and (b and c))"},
	{of(api.Without, of(api.With, atom("a"), atom("a")), of(api.Unless, atom("a"), atom("a"))), []string{"(", "(", "a", "with", "a", ")", "without", "(", "a", "unless", "a", ")", ")"}, "((a with a) without (a unless a))"},
	{of(api.Unless, ranged("a", api.Less, api.EVR{Ver: "1"}), ranged("b", api.Equal, api.EVR{Ver: "2", Rel: "3"}), ranged("c", api.Greater, api.EVR{Epoch: 4, Ver: "5"})), []string{"(", "a", "<", "1", "unless", "b", "=", "2-3", "else", "c", ">", "4:5", ")"}, "(a < 1 unless b = 2-3 else c > 4:5)"},
}

// same says whether two are the same; a list without elements is as good as none.
func same(a, b api.Rich) bool {
	return a.Kind == b.Kind && a.Dep == b.Dep && slices.EqualFunc(a.Args, b.Args, same)
}

// wantWhole asks for these words, and their text.
func wantWhole(t *testing.T, r api.Rich, l []string, s string) {
	t.Helper()
	if !rich.Whole(r) {
		t.Errorf("Whole of %.80q: false", s)
	}
	if got, e := rich.Words(r); !slices.Equal(got, l) || e != api.OK {
		t.Errorf("Words of %.80q: %.80q, %v, want %.80q", s, got, e, l)
	}
	if got, e := rich.Show(r); got != s || e != api.OK {
		t.Errorf("Show of %.80q: %.80q, %v", s, got, e)
	}
}

// wantNotWhole asks for a rich dependency that is not well-formed (R1: nothing beside the error).
func wantNotWhole(t *testing.T, what string, r api.Rich) {
	t.Helper()
	if rich.Whole(r) {
		t.Errorf("%s: Whole", what)
	}
	if l, e := rich.Words(r); l != nil || e != api.ErrForm {
		t.Errorf("%s: Words: %.80q, %v", what, l, e)
	}
	if s, e := rich.Show(r); s != "" || e != api.ErrForm {
		t.Errorf("%s: Show: %.80q, %v", what, s, e)
	}
}

// P8.1: well-formed ones, their words and their texts.
func TestWhole(t *testing.T) {
	for _, c := range some {
		wantWhole(t, c.r, c.l, c.s)
	}
}

// P8.1: an Atom has a valid Dep, and no Args.
func TestAtoms(t *testing.T) {
	for _, d := range []api.Dep{
		{},
		{Name: "and"}, {Name: "or"}, {Name: "if"}, {Name: "else"}, {Name: "unless"}, {Name: "with"}, {Name: "without"},
		{Name: "("}, {Name: ")"}, {Name: "a b"}, {Name: "a)"}, {Name: ">="}, {Name: "\xff"}, {Name: longest + "x"},
		{Name: "a", Op: api.Equal}, {Name: "a", EVR: api.EVR{Ver: "1"}}, {Name: "a", EVR: api.EVR{Epoch: 1}},
		{Name: "a", Op: api.Less | api.Greater, EVR: api.EVR{Ver: "1"}}, {Name: "a", Op: 8, EVR: api.EVR{Ver: "1"}},
		{Name: "/a", Op: api.Equal, EVR: api.EVR{Ver: "1"}},
		{Op: api.Equal, EVR: api.EVR{Ver: "1"}},
		{Name: "a", Op: api.Equal, EVR: api.EVR{Epoch: -1, Ver: "1"}},
		{Name: "a", Op: api.Equal, EVR: api.EVR{Ver: "1 "}},
		{Name: "a", Op: api.Equal, EVR: api.EVR{Ver: "1", Rel: ")"}},
	} {
		bad := api.Rich{Kind: api.Atom, Dep: d}
		wantNotWhole(t, "an Atom with a wrong Dep", bad)
		for _, kind := range kinds {
			wantNotWhole(t, "a wrong first Arg", of(kind, bad, atom("b")))
			wantNotWhole(t, "a wrong second Arg", of(kind, atom("b"), bad))
			if kind != api.Without {
				wantNotWhole(t, "a wrong third Arg", of(kind, atom("b"), atom("c"), bad))
			}
			wantNotWhole(t, "a wrong Arg of an Arg", of(kind, atom("b"), of(kind, atom("c"), bad)))
		}
	}
	for n := 1; n < 4; n++ {
		wantNotWhole(t, "an Atom with Args", api.Rich{Kind: api.Atom, Dep: api.Dep{Name: "a"}, Args: atoms(n)})
		wantNotWhole(t, "an Atom with Args alone", of(api.Atom, atoms(n)...))
	}
	wantNotWhole(t, "an Atom with an empty Arg", api.Rich{Kind: api.Atom, Dep: api.Dep{Name: "a"}, Args: make([]api.Rich, 1)})
	wantWhole(t, api.Rich{Kind: api.Atom, Dep: api.Dep{Name: "a"}, Args: []api.Rich{}}, []string{"a"}, "a")
	wantWhole(t, api.Rich{Kind: api.Atom, Dep: api.Dep{Name: "a"}, Args: make([]api.Rich, 0, 9)}, []string{"a"}, "a")
}

// P8.1: how many Args each Kind has, from none to more than may be.
func TestNumbersOfArgs(t *testing.T) {
	least := map[uint8]int{api.And: 2, api.Or: 2, api.If: 2, api.Unless: 2, api.With: 2, api.Without: 2}
	most := map[uint8]int{api.And: 23, api.Or: 23, api.If: 3, api.Unless: 3, api.With: 23, api.Without: 2}
	for _, kind := range kinds {
		for n := range 40 {
			r := of(kind, atoms(n)...)
			if n < least[kind] || n > most[kind] {
				wantNotWhole(t, "a wrong number of Args", r)
				wantNotWhole(t, "a wrong number of Args of an Arg", of(api.And, atom("b"), r))
				wantNotWhole(t, "a wrong number of Args of the first Arg", of(api.And, r, atom("b")))
				continue
			}
			wantWhole(t, r, wordsBy(r), lex.Join(wordsBy(r)))
			if n < 22 {
				r = of(api.And, atom("b"), r)
				wantWhole(t, r, wordsBy(r), lex.Join(wordsBy(r)))
			}
		}
	}
}

// P8.1: a Dep beside Args.
func TestDepBesideArgs(t *testing.T) {
	for _, d := range []api.Dep{{Name: "a"}, {Name: "("}, {Op: api.Equal}, {EVR: api.EVR{Epoch: 1}}, {EVR: api.EVR{Ver: "1"}}, {EVR: api.EVR{Rel: "1"}}, {Name: "a", Op: api.Less, EVR: api.EVR{Ver: "1"}}} {
		for _, kind := range kinds {
			r := api.Rich{Kind: kind, Dep: d, Args: atoms(2)}
			wantNotWhole(t, "a Dep beside Args", r)
			wantNotWhole(t, "a Dep beside the Args of an Arg", of(api.Or, atom("b"), r))
			wantNotWhole(t, "a Dep beside the Args of the first Arg", of(api.Or, r, atom("b")))
			wantNotWhole(t, "a Dep in place of Args", api.Rich{Kind: kind, Dep: d})
		}
	}
}

// P8.1: all 256 numbers as Kinds, with a Dep, with Args, with both, with nothing.
func TestKinds(t *testing.T) {
	wantNotWhole(t, "nothing", api.Rich{})
	for n := range 256 {
		kind := uint8(n)
		wantNotWhole(t, "nothing but a Kind", api.Rich{Kind: kind})
		wantNotWhole(t, "a Dep and Args", api.Rich{Kind: kind, Dep: api.Dep{Name: "a"}, Args: atoms(2)})
		if kind != api.Atom {
			wantNotWhole(t, "a Kind other than Atom, with a Dep", api.Rich{Kind: kind, Dep: api.Dep{Name: "a"}})
		}
		if !slices.Contains(kinds, kind) {
			for args := range 5 {
				wantNotWhole(t, "a Kind that has no Args", of(kind, atoms(args)...))
				wantNotWhole(t, "an Arg of a Kind that has no Args", of(api.And, atom("b"), of(kind, atoms(args)...)))
			}
		}
	}
}

// P8.1: as many parts as may be, and one more, side by side and nested.
func TestNumberOfParts(t *testing.T) {
	for _, kind := range []uint8{api.And, api.Or, api.With} {
		full := of(kind, atoms(api.MaxNodes-1)...)
		wantWhole(t, full, wordsBy(full), lex.Join(wordsBy(full)))
		wantNotWhole(t, "one part too many", of(kind, atoms(api.MaxNodes)...))
		for depth := 1; depth <= api.MaxNest; depth++ {
			r := nested(kind, depth, true) // 1 + 2*depth parts
			r.Args = append(r.Args, atoms(api.MaxNodes-1-2*depth)...)
			wantWhole(t, r, wordsBy(r), lex.Join(wordsBy(r)))
			r.Args = append(r.Args, atom("more"))
			wantNotWhole(t, "one part too many, the last one", r)
			slices.Reverse(r.Args)
			wantNotWhole(t, "one part too many, the first one", r)
			r.Args = r.Args[1:]
			wantWhole(t, r, wordsBy(r), lex.Join(wordsBy(r)))
		}
	}
	wide := of(api.Or, of(api.And, atoms(10)...), of(api.And, atoms(11)...)) // 24 parts
	wantWhole(t, wide, wordsBy(wide), lex.Join(wordsBy(wide)))
	wantNotWhole(t, "one part too many in the second Arg", of(api.Or, of(api.And, atoms(10)...), of(api.And, atoms(12)...)))
	wantNotWhole(t, "one part too many in the first Arg", of(api.Or, of(api.And, atoms(11)...), of(api.And, atoms(11)...)))
}

// P8.1: as deep as may be, and deeper.
func TestDepth(t *testing.T) {
	for _, kind := range kinds {
		for _, first := range []bool{false, true} {
			for depth := range api.MaxNest + 1 {
				r := nested(kind, depth, first)
				wantWhole(t, r, wordsBy(r), lex.Join(wordsBy(r)))
			}
			for depth := api.MaxNest + 1; depth < 30; depth++ {
				wantNotWhole(t, "too deep", nested(kind, depth, first))
			}
			r := nested(kind, api.MaxNest-1, first)
			wantNotWhole(t, "too deep in the first Arg", of(api.And, of(api.And, r, atom("a")), atom("b")))
			wantNotWhole(t, "too deep in the second Arg", of(api.And, atom("a"), of(api.And, atom("b"), r)))
			wantNotWhole(t, "too deep in the third Arg", of(api.Or, atom("a"), atom("b"), of(api.And, atom("c"), r)))
		}
	}
}

// P8.1: a text has at most lex.MaxText bytes; its words may have more.
func TestLongTexts(t *testing.T) {
	version := api.EVR{Epoch: api.MaxEpoch, Ver: longest, Rel: longest}
	args := make([]api.Rich, api.MaxNodes-1)
	for i := range args {
		args[i] = ranged(longest, api.Greater|api.Equal, version)
	}
	wantTooLong := func(r api.Rich) {
		t.Helper()
		if l, e := rich.Words(r); !slices.Equal(l, wordsBy(r)) || e != api.OK || !rich.Whole(r) {
			t.Errorf("Words of a text that is too long: %d, %v", len(l), e)
		}
		if s, e := rich.Show(r); s != "" || e != api.ErrTooLarge {
			t.Errorf("Show of a text that is too long: %d bytes, %v", len(s), e)
		}
	}
	wantTooLong(of(api.And, args...))
	for _, kind := range kinds[:2] {
		for size := lex.MaxText - 3; size <= lex.MaxText+3; size++ {
			r := sized(t, kind, size)
			if size > lex.MaxText {
				wantTooLong(r)
				continue
			}
			wantWhole(t, r, wordsBy(r), lex.Join(wordsBy(r)))
			if s, _ := rich.Show(r); len(s) != size {
				t.Errorf("Show: %d bytes, want %d", len(s), size)
			}
		}
	}
}

// sized is a rich dependency of that Kind, whose text has so many bytes.
func sized(t *testing.T, kind uint8, size int) api.Rich {
	t.Helper()
	args := make([]api.Rich, 22)
	for i := range args {
		args[i] = ranged("a", api.Greater|api.Equal, api.EVR{Ver: longest, Rel: longest})
	}
	r := of(kind, args...)
	missing := size - len(lex.Join(wordsBy(r)))
	for i := range args {
		more := min(missing, api.MaxName-1)
		args[i].Dep.Name += longest[:more]
		missing -= more
	}
	if missing != 0 {
		t.Fatalf("no rich dependency of %d bytes: %d", size, missing)
	}
	return r
}

// wordsBy are the words of a well-formed one, found by other means than the program's: each Arg is put after the word that the Kind's name tells.
func wordsBy(r api.Rich) []string {
	if r.Kind == api.Atom {
		l, _ := dep.Words(r.Dep)
		return l
	}
	word := map[uint8]string{api.And: "and", api.Or: "or", api.If: "if", api.Unless: "unless", api.With: "with", api.Without: "without"}[r.Kind]
	var l []string
	for i, arg := range slices.Backward(r.Args) {
		l = append(wordsBy(arg), l...)
		switch {
		case i == 2 && (r.Kind == api.If || r.Kind == api.Unless):
			l = append([]string{"else"}, l...)
		case i > 0:
			l = append([]string{word}, l...)
		}
	}
	return append(append([]string{"("}, l...), ")")
}

// wholeBy says whether one is well-formed, found by other means than the program's: its parts are put into one list.
func wholeBy(r api.Rich) bool {
	type part struct {
		r     api.Rich
		depth int
	}
	all := []part{{r, 0}}
	for i := 0; i < len(all); i++ {
		p, n, ok := all[i].r, len(all[i].r.Args), false
		switch p.Kind {
		case api.Atom:
			ok = n == 0 && dep.May(p.Dep)
		case api.And, api.Or, api.With:
			ok = n >= 2
		case api.If, api.Unless:
			ok = n == 2 || n == 3
		case api.Without:
			ok = n == 2
		}
		if !ok || p.Kind != api.Atom && p.Dep != (api.Dep{}) || all[i].depth > 8 || i >= 24 {
			return false
		}
		for _, arg := range p.Args {
			all = append(all, part{arg, all[i].depth + 1})
		}
	}
	return true
}

// wantLikeOther asks for what is found by other means.
func wantLikeOther(t *testing.T, r api.Rich) {
	t.Helper()
	if !wholeBy(r) {
		wantNotWhole(t, "found otherwise not to be well-formed", r)
		return
	}
	wantWhole(t, r, wordsBy(r), lex.Join(wordsBy(r)))
}

// eachArgs calls f with all lists of up to so many of the parts.
func eachArgs(parts []api.Rich, most int, f func([]api.Rich)) {
	f(nil)
	if most == 0 {
		return
	}
	for _, p := range parts {
		eachArgs(parts, most-1, func(l []api.Rich) { f(append([]api.Rich{p}, l...)) })
	}
}

// P8.1: all that are made of a few parts, of which some are not well-formed, held against what is found by other means.
func TestWholeAll(t *testing.T) {
	leaves := []api.Rich{atom("a"), ranged("b", api.Less, api.EVR{Ver: "1"}), atom("if"), {}, {Kind: api.Atom, Dep: api.Dep{Name: "a"}, Args: atoms(1)}}
	inner := []api.Rich{atom("a"), of(api.And, atom("a")), {Kind: api.Or, Dep: api.Dep{Name: "a"}, Args: atoms(2)}}
	for _, kind := range kinds {
		inner = append(inner, of(kind, atom("a"), atom("b")), of(kind, atom("a"), atom("b"), atom("c")))
	}
	for kind := range uint8(9) {
		for _, d := range []api.Dep{{}, {Name: "a"}} {
			check := func(l []api.Rich) { wantLikeOther(t, api.Rich{Kind: kind, Dep: d, Args: l}) }
			eachArgs(leaves, 4, check)
			eachArgs(inner, 3, check)
		}
	}
}

// P8.1: many that are grown by a rule, about as deep, and of about as many parts, as may be.
func TestWholeGrown(t *testing.T) {
	var d dice
	whole := 0
	for range 20000 {
		r := d.grow(4+d.roll(30), 1+d.roll(api.MaxNest+2))
		wantLikeOther(t, r)
		if d.roll(3) == 0 {
			r = d.spoil(r)
			wantLikeOther(t, r)
		}
		if wholeBy(r) {
			whole++
		}
	}
	if whole < 5000 || whole > 15000 {
		t.Errorf("%d of 20000 are well-formed: these are not the edges", whole)
	}
}

// R1: what contains itself, what is very deep, very wide, or both, is refused, and that soon.
func TestEndless(t *testing.T) {
	for _, kind := range kinds {
		for n := 1; n < 5; n++ {
			args := make([]api.Rich, n)
			for i := range args {
				args[i] = of(kind, args...)
			}
			for i := range args {
				args[i].Args = args
			}
			wantNotWhole(t, "what contains itself", of(kind, args...))
			wantNotWhole(t, "what contains itself, as an Arg", of(kind, atom("a"), of(kind, args...)))
		}
		wantNotWhole(t, "very deep", nested(kind, 200000, false))
		wantNotWhole(t, "very deep", nested(kind, 200000, true))
		wide := of(kind, slices.Repeat(atoms(1), 1<<18)...)
		wantNotWhole(t, "very wide", wide)
		for range 60 {
			wide = of(kind, wide, wide, wide)
		}
		wantNotWhole(t, "very wide and deep", wide)
	}
	wantNotWhole(t, "a very long name", atom(strings.Repeat("a", 1<<26)))
	wantNotWhole(t, "a very long name beside Args", api.Rich{Kind: api.And, Dep: api.Dep{Name: strings.Repeat("a", 1<<26)}, Args: atoms(2)})
	wantNotWhole(t, "an Atom with very many Args", api.Rich{Kind: api.Atom, Dep: api.Dep{Name: "a"}, Args: make([]api.Rich, 1<<18)})
}

// copied is a copy that shares no lists.
func copied(r api.Rich) api.Rich {
	args := r.Args
	r.Args = nil
	for _, arg := range args {
		r.Args = append(r.Args, copied(arg))
	}
	return r
}

// textsOf are all texts in the Deps of a rich dependency.
func textsOf(r api.Rich) []string {
	l := []string{r.Dep.Name, r.Dep.EVR.Ver, r.Dep.EVR.Rel}
	for _, arg := range r.Args {
		l = append(l, textsOf(arg)...)
	}
	return l
}

// R1: the arguments stay, answers share no memory with them or with each other, and are the same each time.
func TestWholeIsNew(t *testing.T) {
	for _, c := range some {
		before := copied(c.r)
		first, _ := rich.Words(c.r)
		second, _ := rich.Words(c.r)
		text, _ := rich.Show(c.r)
		again, _ := rich.Show(c.r)
		if !reflect.DeepEqual(copied(c.r), before) || !rich.Whole(c.r) || text != again {
			t.Errorf("%q: changed", c.s)
		}
		for _, own := range textsOf(c.r) {
			for _, word := range append(slices.Clone(first), text) {
				if shared(own, word) {
					t.Errorf("%q: %q shares memory with %q", c.s, word, own)
				}
			}
		}
		clear(first)
		if !slices.Equal(second, c.l) {
			t.Errorf("%q: another answer has changed to %q", c.s, second)
		}
	}
	args := append(atoms(2), atom("if"), atom("or")) // what stands behind a list does not count, and stays
	if l, e := rich.Words(of(api.And, args[:2]...)); !slices.Equal(l, []string{"(", "pa0", "and", "pb0", ")"}) || e != api.OK || args[2].Dep.Name != "if" {
		t.Errorf("%q, %v, %v", l, e, args)
	}
}
