package rich_test

import (
	"slices"
	"strings"
	"testing"

	"chandlery/api"
	"chandlery/lex"
	"chandlery/rich"
)

// eachWhole calls f with well-formed rich dependencies: those of the table, all of a few parts, and many that are grown by a rule; each of them once, for what they are made of.
func eachWhole(f func(api.Rich)) {
	for _, c := range some {
		f(c.r)
	}
	small := []api.Rich{atom("c"), ranged("c", api.Less, api.EVR{Ver: "2"}), ranged("c", api.Less, api.EVR{Epoch: 1, Ver: "2"})}
	for _, kind := range kinds {
		eachArgs(small[:3], 3, func(l []api.Rich) {
			if r := of(kind, l...); wholeBy(r) {
				f(r)
				f(of(api.Or, r, atom("c")))
				f(of(api.Or, atom("c"), r))
			}
		})
	}
	var d dice
	for range 3000 {
		if r := d.grow(4+d.roll(22), 1+d.roll(api.MaxNest)); wholeBy(r) {
			f(r)
		}
	}
}

// wantBack asks for the same again from the text.
func wantBack(t *testing.T, r api.Rich) {
	t.Helper()
	s, e := rich.Show(r)
	if e != api.OK {
		t.Errorf("Show(%v): %v", r, e)
	}
	wantRich(t, s, r)
}

// P8.3: Parse of Show is the same.
func TestBack(t *testing.T) {
	eachWhole(func(r api.Rich) { wantBack(t, r) })
	for _, kind := range kinds {
		for depth := range api.MaxNest + 1 {
			wantBack(t, nested(kind, depth, false))
			wantBack(t, nested(kind, depth, true))
		}
	}
	for n := 2; n < api.MaxNodes; n++ {
		wantBack(t, of(api.And, atoms(n)...))
		wantBack(t, of(api.Or, atoms(n)...))
		wantBack(t, of(api.With, atoms(n)...))
	}
	wantBack(t, sized(t, api.And, lex.MaxText))
	wantBack(t, sized(t, api.Or, lex.MaxText-1))
}

// wantJoined asks of a text that can be read for its words, joined.
func wantJoined(t *testing.T, s string) {
	t.Helper()
	r, _, e := rich.Parse(s)
	if e != api.OK {
		t.Errorf("Parse(%.80q): %v", s, e)
		return
	}
	words, _, _ := lex.Words(s)
	var l []string
	for _, w := range words {
		l = append(l, w.Text)
	}
	if got, e := rich.Words(r); !slices.Equal(got, l) || e != api.OK {
		t.Errorf("Words of Parse(%.80q): %.80q, %v", s, got, e)
	}
	if got, e := rich.Show(r); got != lex.Join(l) || e != api.OK {
		t.Errorf("Show of Parse(%.80q): %.80q, %v", s, got, e)
	}
}

// P8.3: for any text that can be read, Show is its words, joined: with more spaces than there need be, and with fewer.
func TestJoined(t *testing.T) {
	var d dice
	eachWhole(func(r api.Rich) {
		l := wordsBy(r)
		wantJoined(t, strings.Join(l, " "))
		wantJoined(t, strings.Join(l, "   "))
		var s strings.Builder
		for i, word := range l {
			least := 0
			if i > 0 && !strings.ContainsAny(word+l[i-1], "()") {
				least = 1
			}
			s.WriteString(strings.Repeat(" ", least+d.roll(3)) + word)
		}
		wantJoined(t, s.String())
		wantJoined(t, s.String()+"  ")
	})
}

// P8.3: a text may be read whose words, joined, are longer than a text; these are no text.
func TestJoinedTooLong(t *testing.T) {
	r := sized(t, api.And, lex.MaxText)
	r.Args = append(r.Args[:20:20], of(api.Or, r.Args[20], r.Args[21]))
	joined := lex.Join(wordsBy(r))
	s := strings.Replace(joined, " (", "(", 1)
	if len(s) != lex.MaxText || len(joined) != lex.MaxText+1 {
		t.Fatalf("%d bytes, joined %d", len(s), len(joined))
	}
	wantRich(t, s, r)
	wantWrong(t, joined, 0, api.ErrTooLarge)
	if l, e := rich.Words(r); !slices.Equal(l, wordsBy(r)) || e != api.OK || !rich.Whole(r) {
		t.Errorf("Words: %d, %v", len(l), e)
	}
	if got, e := rich.Show(r); got != "" || e != api.ErrTooLarge {
		t.Errorf("Show: %d bytes, %v", len(got), e)
	}
}

// P8.4: what is read is well-formed, and a place is within the text, or at its end.
func TestRead(t *testing.T) {
	check := func(s string) {
		t.Helper()
		r, place, e := rich.Parse(s)
		if e == api.OK && (!rich.Whole(r) || !wholeBy(r) || place != 0) {
			t.Errorf("Parse(%.80q): %v, %d", s, r, place)
		}
		if place < 0 || place > len(s) {
			t.Errorf("Parse(%.80q): %d, %v", s, place, e)
		}
	}
	pieces := []string{"(", ")", " ", "a", " and ", " if ", " = 1", "\t", "or"}
	eachList(pieces, 5, func(l []string) { check(strings.Join(l, "")) })
	for b := range 256 {
		c := string([]byte{byte(b)})
		check(c)
		for _, t := range some {
			for i := range len(t.s) + 1 {
				check(t.s[:i] + c + t.s[i:])
			}
		}
	}
	for _, c := range some {
		for i := range len(c.s) {
			check(c.s[:i])
			check(c.s[i:])
			check(c.s[:i] + c.s[i+1:])
		}
	}
	check(strings.Repeat("(", lex.MaxText))
	check(strings.Repeat("a and ", lex.MaxText))
}

// partsOf are all parts of a rich dependency, itself first.
func partsOf(r api.Rich) []api.Rich {
	l := []api.Rich{r}
	for _, arg := range r.Args {
		l = append(l, partsOf(arg)...)
	}
	return l
}

// P8.5: each part of a well-formed one is well-formed; so is an And with an additional Arg, if there are not too many parts.
func TestParts(t *testing.T) {
	ands := 0
	eachWhole(func(r api.Rich) {
		parts := partsOf(r)
		for _, part := range parts {
			if !rich.Whole(part) {
				t.Errorf("%v, a part of %v, is not well-formed", part, r)
			}
		}
		if r.Kind != api.And {
			return
		}
		ands++
		for _, arg := range []api.Rich{atom("z"), ranged("z", api.Equal, api.EVR{Ver: "1"}), of(api.Without, atom("y"), atom("z")), r.Args[0], r} {
			if nest := nestOf(arg); nest == api.MaxNest {
				continue // one parenthesis more would be too deep
			}
			for i := range len(r.Args) + 1 {
				more := of(api.And, slices.Insert(slices.Clone(r.Args), i, arg)...)
				if want := len(parts)+len(partsOf(arg)) <= api.MaxNodes; rich.Whole(more) != want {
					t.Errorf("%v with one more Arg: well-formed: %t", r, !want)
				}
			}
		}
	})
	if ands < 100 {
		t.Errorf("%d And: too few", ands)
	}
}

// nestOf is a rich dependency's depth.
func nestOf(r api.Rich) int {
	depth := 0
	for _, arg := range r.Args {
		depth = max(depth, nestOf(arg)+1)
	}
	return depth
}

// P8.5: an And, from two Args on, with one more, till there are too many parts.
func TestAndGrows(t *testing.T) {
	r := of(api.And, atom("a"), of(api.If, atom("b"), atom("c")))
	for parts := 5; parts < 30; parts++ {
		if rich.Whole(r) != (parts <= api.MaxNodes) {
			t.Errorf("an And of %d parts: %t", parts, rich.Whole(r))
		}
		r.Args = append(r.Args, atom("z"))
	}
}

// P8.6: different ones have different texts.
func TestDistinct(t *testing.T) {
	seen := map[string]api.Rich{}
	check := func(r api.Rich) {
		s, e := rich.Show(r)
		if e != api.OK {
			return
		}
		if other, ok := seen[s]; ok && !same(r, other) {
			t.Errorf("%q: both of %v and %v", s, r, other)
		}
		seen[s] = r
	}
	eachWhole(func(r api.Rich) {
		check(r)
		for _, other := range altered(r) {
			if same(r, other) {
				t.Errorf("%v: an altered one is the same", r)
			}
			check(other)
		}
	})
	if len(seen) < 5000 {
		t.Errorf("%d texts: too few", len(seen))
	}
}

// P8.6: unlike ones that differ in one part alone.
func TestDistinctPairs(t *testing.T) {
	for _, c := range some {
		for _, other := range altered(c.r) {
			if s, e := rich.Show(other); s == c.s || e == api.OK && !wholeBy(other) {
				t.Errorf("%q: the text of %v, too: %v", c.s, other, e)
			}
		}
		for _, other := range some {
			if s, _ := rich.Show(other.r); (s == c.s) != same(c.r, other.r) {
				t.Errorf("%q: the text of %v and of %v", s, c.r, other.r)
			}
		}
	}
}

// altered are rich dependencies that differ from r in one part alone.
func altered(r api.Rich) []api.Rich {
	var l []api.Rich
	add := func(change func(*api.Rich)) {
		other := copied(r)
		change(&other)
		l = append(l, other)
	}
	if r.Kind == api.Atom {
		add(func(o *api.Rich) { o.Dep.Name = "other" })
		add(func(o *api.Rich) { o.Dep = api.Dep{Name: "o", Op: api.Equal, EVR: api.EVR{Ver: "1"}} })
		if r.Dep.Op != api.Any {
			add(func(o *api.Rich) { o.Dep.EVR.Epoch++ })
			add(func(o *api.Rich) { o.Dep.EVR.Ver += "0" })
			add(func(o *api.Rich) { o.Dep.EVR.Rel += "0" })
			add(func(o *api.Rich) { o.Dep.Op ^= api.Equal })
		}
		add(func(o *api.Rich) { *o = of(api.And, r, atom("o")) })
		return l
	}
	for _, kind := range kinds {
		if kind != r.Kind {
			add(func(o *api.Rich) { o.Kind = kind })
		}
	}
	add(func(o *api.Rich) { o.Args = append(o.Args, atom("o")) })
	add(func(o *api.Rich) { o.Args = o.Args[1:] })
	for i, arg := range r.Args {
		for _, other := range altered(arg) {
			add(func(o *api.Rich) { o.Args[i] = other })
		}
	}
	return l
}
