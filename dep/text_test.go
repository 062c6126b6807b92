package dep_test

import (
	"regexp"
	"slices"
	"strconv"
	"strings"
	"testing"
	"unsafe"

	"chandlery/api"
	"chandlery/dep"
	"chandlery/evr"
)

// texts are valid dependencies, with their words.
var texts = []struct {
	d api.Dep
	l []string
}{
	{api.Dep{Name: "bash"}, []string{"bash"}},
	{api.Dep{Name: "a"}, []string{"a"}},
	{api.Dep{Name: "/"}, []string{"/"}},
	{api.Dep{Name: "/usr/bin/sh"}, []string{"/usr/bin/sh"}},
	{api.Dep{Name: "a", Op: api.Less, EVR: api.EVR{Ver: "1"}}, []string{"a", "<", "1"}},
	{api.Dep{Name: "a", Op: api.Equal, EVR: api.EVR{Ver: "1"}}, []string{"a", "=", "1"}},
	{api.Dep{Name: "a", Op: api.Greater, EVR: api.EVR{Ver: "1"}}, []string{"a", ">", "1"}},
	{api.Dep{Name: "a", Op: api.Less | api.Equal, EVR: api.EVR{Ver: "1"}}, []string{"a", "<=", "1"}},
	{api.Dep{Name: "a", Op: api.Greater | api.Equal, EVR: api.EVR{Ver: "1"}}, []string{"a", ">=", "1"}},
	{api.Dep{Name: "libfoo", Op: api.Greater | api.Equal, EVR: api.EVR{Epoch: 2, Ver: "1.4", Rel: "1"}}, []string{"libfoo", ">=", "2:1.4-1"}},
	{api.Dep{Name: "vim", Op: api.Less, EVR: api.EVR{Epoch: 2, Ver: "9.0", Rel: "1.fc40"}}, []string{"vim", "<", "2:9.0-1.fc40"}},
	{api.Dep{Name: "libc.so.6", Op: api.Equal, EVR: api.EVR{Ver: "2.38"}}, []string{"libc.so.6", "=", "2.38"}},
	{api.Dep{Name: "a", Op: api.Equal, EVR: api.EVR{Ver: "0", Rel: "0"}}, []string{"a", "=", "0-0"}},
	{api.Dep{Name: "a", Op: api.Equal, EVR: api.EVR{Epoch: 1, Ver: "0"}}, []string{"a", "=", "1:0"}},
	{api.Dep{Name: "1:2-3", Op: api.Equal, EVR: api.EVR{Epoch: 1, Ver: "2", Rel: "3"}}, []string{"1:2-3", "=", "1:2-3"}},
	{api.Dep{Name: "If", Op: api.Equal, EVR: api.EVR{Ver: "if", Rel: "or"}}, []string{"If", "=", "if-or"}},
	{api.Dep{Name: "a/b", Op: api.Greater, EVR: api.EVR{Ver: "~", Rel: "^"}}, []string{"a/b", ">", "~-^"}},
	{api.Dep{Name: "._+-/:@~^", Op: api.Less | api.Equal, EVR: api.EVR{Ver: "._+~^", Rel: "._+~^"}}, []string{"._+-/:@~^", "<=", "._+~^-._+~^"}},
	{api.Dep{Name: longest, Op: api.Greater | api.Equal, EVR: api.EVR{Epoch: api.MaxEpoch, Ver: longest, Rel: longest}}, []string{longest, ">=", "2147483647:" + longest + "-" + longest}},
}

// P6.2: the words of dependencies, and the dependencies of words; their texts, and the dependencies of texts.
func TestTexts(t *testing.T) {
	for _, c := range texts {
		if l, e := dep.Words(c.d); !slices.Equal(l, c.l) || e != api.OK {
			t.Errorf("Words(%+v): %q, %v, want %q", c.d, l, e, c.l)
		}
		if d, e := dep.Of(c.l...); d != c.d || e != api.OK {
			t.Errorf("Of(%q): %+v, %v, want %+v", c.l, d, e, c.d)
		}
		text := strings.Join(c.l, " ")
		if s, e := dep.Show(c.d); s != text || e != api.OK {
			t.Errorf("Show(%+v): %q, %v, want %q", c.d, s, e, text)
		}
		if d, e := dep.Parse(text); d != c.d || e != api.OK {
			t.Errorf("Parse(%q): %+v, %v, want %+v", text, d, e, c.d)
		}
	}
}

// wantNoText asks Parse for a text of none (R1: nothing beside the error).
func wantNoText(t *testing.T, s string) {
	t.Helper()
	if d, e := dep.Parse(s); d != (api.Dep{}) || e != api.ErrForm {
		t.Errorf("Parse(%.80q): %+v, %v", s, d, e)
	}
}

// wantNoWords asks Of for words of none (R1: nothing beside the error).
func wantNoWords(t *testing.T, l ...string) {
	t.Helper()
	if d, e := dep.Of(l...); d != (api.Dep{}) || e != api.ErrForm {
		t.Errorf("Of(%.80q): %+v, %v", l, d, e)
	}
}

// P6.1, P6.2: the chapter's examples.
func TestExamples(t *testing.T) {
	d, e := dep.Parse("libfoo >= 2:1.4-1")
	if e != api.OK {
		t.Fatal(e)
	}
	if l, e := dep.Words(d); e != api.OK || !slices.Equal(l, []string{"libfoo", ">=", "2:1.4-1"}) {
		t.Errorf("%q, %v", l, e)
	}
	if !dep.File("/usr/bin/sh") {
		t.Error("/usr/bin/sh is that of a file")
	}
	if l, e := dep.Words(api.Dep{Name: "/usr/bin/sh", Op: api.Equal, EVR: api.EVR{Ver: "1"}}); l != nil || e != api.ErrForm {
		t.Errorf("%q, %v", l, e)
	}
	wantNoText(t, "/usr/bin/sh = 1")
	wantNoWords(t, "/usr/bin/sh", "=", "1")
	wantNoText(t, "if")
	wantNoWords(t, "if")
	wantNoText(t, "libfoo  = 1")
}

// P6.2: invalid dependencies have no words, and no text (R1: nothing beside the error).
func TestShowInvalid(t *testing.T) {
	for _, d := range []api.Dep{
		{},
		{Name: "if"},
		{Name: "a b"},
		{Name: "a = 1"},
		{Op: api.Equal, EVR: api.EVR{Ver: "1"}},
		{Name: "with", Op: api.Equal, EVR: api.EVR{Ver: "1"}},
		{Name: strings.Repeat("a", api.MaxName+1), Op: api.Equal, EVR: api.EVR{Ver: "1"}},
		{Name: "a", EVR: api.EVR{Ver: "1"}},
		{Name: "a", EVR: api.EVR{Ver: "1", Rel: "1"}},
		{Name: "a", EVR: api.EVR{Epoch: 1}},
		{Name: "a", EVR: api.EVR{Epoch: -1}},
		{Name: "a", EVR: api.EVR{Rel: "1"}},
		{Name: "a", EVR: api.EVR{Ver: " "}},
		{Name: "a", Op: api.Equal},
		{Name: "a", Op: api.Less | api.Greater, EVR: api.EVR{Ver: "1"}},
		{Name: "a", Op: api.Less | api.Equal | api.Greater, EVR: api.EVR{Ver: "1"}},
		{Name: "a", Op: 8},
		{Name: "a", Op: 8, EVR: api.EVR{Ver: "1"}},
		{Name: "a", Op: 8 | api.Equal, EVR: api.EVR{Ver: "1"}},
		{Name: "a", Op: 255, EVR: api.EVR{Ver: "1"}},
		{Name: "a", Op: api.Equal, EVR: api.EVR{Ver: "1-1"}},
		{Name: "a", Op: api.Equal, EVR: api.EVR{Epoch: -1, Ver: "1"}},
		{Name: "a", Op: api.Equal, EVR: api.EVR{Epoch: api.MaxEpoch + 1, Ver: "1"}},
		{Name: "/a", Op: api.Equal, EVR: api.EVR{Ver: "1"}},
		{Name: "/a", Op: api.Less | api.Equal, EVR: api.EVR{Ver: "1", Rel: "1"}},
		{Name: "/a", Op: api.Equal},
		{Name: "/a", EVR: api.EVR{Ver: "1"}},
	} {
		if l, e := dep.Words(d); l != nil || e != api.ErrForm {
			t.Errorf("Words(%+v): %q, %v", d, l, e)
		}
		if s, e := dep.Show(d); s != "" || e != api.ErrForm {
			t.Errorf("Show(%+v): %q, %v", d, s, e)
		}
	}
}

// P6.2: Of with 0 to 4 words, out of all these.
func TestOfWords(t *testing.T) {
	wantNoWords(t)
	if d, e := dep.Of([]string{}...); d != (api.Dep{}) || e != api.ErrForm {
		t.Errorf("Of of an empty list: %+v, %v", d, e)
	}
	some := []string{"", " ", "a", "/a", "b1", "if", "with", "=", "<", ">=", "=>", "==", "1", "1-1", "2:1.4-1", "0:1", "1-", "a = 1", "a b", "= 1", "1 ", "\xff", longest, longest + "9"}
	valid := 0
	for _, first := range some {
		check := func(l ...string) {
			want, ok := expected(strings.Join(l, " "))
			for _, w := range l {
				ok = ok && !strings.Contains(w, " ") // a space in a word does not part words
			}
			if !ok {
				wantNoWords(t, l...)
			} else if d, e := dep.Of(l...); d != want || e != api.OK {
				t.Errorf("Of(%q): %+v, %v", l, d, e)
			} else {
				valid++
			}
		}
		check(first)
		for _, second := range some {
			wantNoWords(t, first, second)
			for _, third := range some {
				check(first, second, third)
				wantNoWords(t, first, second, third, "")
				wantNoWords(t, "", first, second, third)
				wantNoWords(t, first, second, third, third)
				wantNoWords(t, first, second, third, "a")
				wantNoWords(t, "a", first, second, third)
			}
		}
	}
	if want := 9 + 8*3*8; valid != want { // nine names, one of them of a file; three Ops; eight EVRs
		t.Errorf("%d are valid, not %d", valid, want)
	}
	many := make([]string, 100000)
	for i := range many {
		many[i] = "a"
	}
	wantNoWords(t, many...)
}

// P6.2: words of which only one is wrong.
func TestOfWrongWord(t *testing.T) {
	for _, c := range texts {
		for _, w := range append([]string{"", " ", "a b", "(a", ",", "\xff", "\u00e9", strings.Repeat("a", api.MaxName+1)}, words...) {
			l := slices.Clone(c.l)
			l[0] = w
			wantNoWords(t, l...)
		}
		if len(c.l) == 1 {
			continue
		}
		for _, w := range []string{"", " ", "==", "=<", "=>", "<>", "><", "<=>", "!=", "~", "= ", " =", "a", "2", "\x02", "eq", "\uff1d"} {
			wantNoWords(t, c.l[0], w, c.l[2])
		}
		for _, w := range []string{"", " ", "0:1", "01:1", "1-", ":1", "1-2-3", "-1:1", "2147483648:1", "1/1", " 1", "1 ", "/a", "1=", longest + "9", "\xff"} {
			wantNoWords(t, c.l[0], c.l[1], w)
		}
		wantNoWords(t, "/"+c.l[0], c.l[1], c.l[2])
		wantNoWords(t, c.l[1], c.l[0], c.l[2])
		wantNoWords(t, c.l[2], c.l[1])
		wantNoWords(t, c.l[1], c.l[2])
		wantNoWords(t, c.l[1])
	}
}

// P6.2: what is the text of none.
func TestParseInvalid(t *testing.T) {
	for _, s := range []string{
		"", " ", "  ", "   ", "    ",
		"a ", " a", "a  ", "  a", "a   ", "a b", "a b c", "a if b", "a and b", "a, b", "a,b", "(a)", "(a", "a)",
		"a =", "a = ", "= 1", " = 1", "=", "a >= ", "a >= 1 ", " a >= 1", "a  >= 1", "a >=  1",
		"a>=1", "a>= 1", "a >=1", "a=1", "a =1", "a= 1", "a > = 1", "a < = 1", "a >= 1 2", "a >= 1 -2", "a >= 1- 2", "a >= 1: 2", "a = 1 = 1", "a = 1 b", "b a = 1",
		"a == 1", "a => 1", "a =< 1", "a <> 1", "a != 1", "a ~ 1", "a eq 1", "a 2 1", "a with 1", "1 a =", "1 = ",
		"a = 0:1", "a = 01:1", "a = 00:1-1", "a = 1-", "a = -1", "a = :1", "a = 1:", "a = 1-2-3", "a = 1:2:3", "a = -1:1", "a = +1:1", "a = 2147483648:1", "a = 1/2", "a = /1", "a = (1)",
		"a = " + longest + "9", "a = 1-" + longest + "9", longest + "9 = 1", longest + "9",
		"/b >= 1", "/ = 1", "/usr/bin/sh = 1", "/b < 2:1-1", "/b >=", "/b ", " /b", "/a /b",
		"with", "if = 1", "and < 1", "or >= 2:1.4-1", "without > 1", "unless = 1-1", "else <= 1",
		"a\t=\t1", "a\t= 1", "a =\t1", "a\n", "a = 1\n", "\ta", "a\u00a0= 1", "a\u2003=\u20031", "a\x00=\x001", "a = 1\x00", "\xff", "a\xff", "a = \xff", "a \xff 1", "\u00e9 = 1", "a = \u00e9",
		strings.Repeat(" ", 100000), strings.Repeat("a ", 100000), strings.Repeat("a", 100000), "a = " + strings.Repeat("1", 100000), "a " + strings.Repeat("=", 100000) + " 1", "a = 1" + strings.Repeat(" ", 100000), strings.Repeat("a = 1 ", 100000),
	} {
		wantNoText(t, s)
	}
}

var textForm = regexp.MustCompile(`^([a-zA-Z0-9._+/:@~^-]{1,64})(?: (<|=|>|<=|>=) (?:([1-9][0-9]{0,9}):)?([a-zA-Z0-9._+~^]{1,64})(?:-([a-zA-Z0-9._+~^]{1,64}))?)?$`)

// expected is what Parse has to answer, found by other means than the program's.
func expected(s string) (api.Dep, bool) {
	m := textForm.FindStringSubmatch(s)
	if m == nil || slices.Contains(words, m[1]) || m[1][0] == '/' && m[2] != "" {
		return api.Dep{}, false
	}
	d := api.Dep{Name: m[1]}
	for _, o := range ops {
		if o.text == m[2] {
			d.Op = o.op
		}
	}
	epoch, _ := strconv.ParseInt("0"+m[3], 10, 64)
	if epoch > 1<<31-1 {
		return api.Dep{}, false
	}
	d.EVR = api.EVR{Epoch: int(epoch), Ver: m[4], Rel: m[5]}
	return d, true
}

// wantExpected asks Parse for what is found by other means, and Show of that for the text; it says whether the text is one of a dependency.
func wantExpected(t *testing.T, s string) bool {
	t.Helper()
	want, ok := expected(s)
	if !ok {
		wantNoText(t, s)
		return false
	}
	got, e := dep.Parse(s)
	if got != want || e != api.OK {
		t.Errorf("Parse(%q): %+v, %v, want %+v", s, got, e, want)
	}
	if back, e := dep.Show(got); back != s || e != api.OK {
		t.Errorf("Show of Parse(%q): %q, %v", s, back, e)
	}
	if !dep.May(got) {
		t.Errorf("Parse(%q) is invalid: %+v", s, got)
	}
	return true
}

// eachText calls f with all texts of up to so many of the pieces.
func eachText(pieces []string, most int, f func(string)) {
	f("")
	if most == 0 {
		return
	}
	for _, p := range pieces {
		eachText(pieces, most-1, func(s string) { f(p + s) })
	}
}

// P6.2, P6.3, P6.4: all texts of a few pieces, held against what is found by other means; what is read is valid, and Show of it is the text.
func TestParseAll(t *testing.T) {
	valid := 0
	check := func(s string) {
		if wantExpected(t, s) {
			valid++
		}
	}
	eachText([]string{"a", "/", " ", "<", "=", "1", "\xe9"}, 6, check)
	eachText([]string{"a", "/b", " ", " >= ", "<", "=", "1", "0", ":", "-", "if"}, 5, check)
	if valid < 1000 {
		t.Error("too few texts of a dependency among them:", valid)
	}
}

// P6.3: Parse of Show is the dependency, Of of Words too; no two have the same text.
func TestBack(t *testing.T) {
	seen := map[string]api.Dep{}
	check := func(d api.Dep) {
		s, e := dep.Show(d)
		if e != api.OK {
			t.Fatalf("Show(%+v): %v", d, e)
		}
		if back, e := dep.Parse(s); back != d || e != api.OK {
			t.Fatalf("Parse(%q): %+v, %v, want %+v", s, back, e, d)
		}
		l, e := dep.Words(d)
		if e != api.OK || strings.Join(l, " ") != s {
			t.Fatalf("Words(%+v): %q, %v, but its text is %q", d, l, e, s)
		}
		if back, e := dep.Of(l...); back != d || e != api.OK {
			t.Fatalf("Of(%q): %+v, %v, want %+v", l, back, e, d)
		}
		if other, twice := seen[s]; twice {
			t.Fatalf("%q is the text of both %+v and %+v", s, other, d)
		}
		seen[s] = d
	}
	for _, name := range []string{"/", "/a", "/usr/bin/sh", "//", "/if"} {
		check(api.Dep{Name: name})
	}
	for _, name := range []string{"a", "A", "b", "libfoo", "1", "1-1", "1:1", "-", "If", "withouts", "a/b", "~", longest} {
		check(api.Dep{Name: name})
		for _, o := range ops {
			for _, epoch := range []int{0, 1, 9, 10, 1<<31 - 2, 1<<31 - 1} {
				for _, ver := range []string{"1", "0", "01", "1.0", "~", "^a", ".", "+1", "with", longest} {
					for _, rel := range []string{"", "0", "1", "01", "~", "+", longest} {
						check(api.Dep{Name: name, Op: o.op, EVR: api.EVR{Epoch: epoch, Ver: ver, Rel: rel}})
					}
				}
			}
		}
	}
}

// P6.5: a text with one space more or less is none; nor is it with another sign in place of a space.
func TestSpaces(t *testing.T) {
	for _, c := range texts {
		s := strings.Join(c.l, " ")
		for i := range len(s) + 1 {
			wantNoText(t, s[:i]+" "+s[i:])
			wantNoText(t, s[:i]+"  "+s[i:])
			if i == len(s) || s[i] != ' ' {
				continue
			}
			wantNoText(t, s[:i]+s[i+1:])
			for b := range 256 {
				if b != ' ' {
					wantNoText(t, s[:i]+string([]byte{byte(b)})+s[i+1:])
				}
			}
			wantNoText(t, s[:i]+"\u00a0"+s[i+1:])
		}
	}
}

// P6.5: a text with any byte more, one less, or another one, is read as what it is found to be by other means; a byte that no word has makes it none.
func TestOtherSigns(t *testing.T) {
	for _, c := range texts {
		s := strings.Join(c.l, " ")
		for i := range len(s) + 1 {
			if i < len(s) {
				wantExpected(t, s[:i]+s[i+1:])
			}
			for b := range 256 {
				sign := string([]byte{byte(b)})
				more, other := s[:i]+sign+s[i:], s[:i]+sign+s[min(i+1, len(s)):]
				wantExpected(t, more)
				wantExpected(t, other)
				if !strings.Contains(nameBytes+" <=>", sign) {
					wantNoText(t, more)
					wantNoText(t, other)
				}
			}
		}
	}
}

// P6.2: Own is the name, and Equal the EVR, of whatever they are; of a package's it is valid.
func TestOwn(t *testing.T) {
	for _, name := range []string{"", "a", "libfoo", "/", "/usr/bin/sh", "if", "a b", "\xff", longest, strings.Repeat("a", 100000)} {
		for _, e := range append(append([]api.EVR{{}}, validEVRs...), invalidEVRs...) {
			d := dep.Own(name, e)
			if want := (api.Dep{Name: name, Op: api.Equal, EVR: e}); d != want {
				t.Errorf("Own(%.80q, %+v): %+v", name, e, d)
			}
			if got, want := dep.May(d), dep.Name(name) && !dep.File(name) && evr.May(e, true); got != want {
				t.Errorf("May(%+v): %v", d, got)
			}
		}
	}
	if s, e := dep.Show(dep.Own("a", api.EVR{Epoch: 1, Ver: "2", Rel: "3"})); s != "a = 1:2-3" || e != api.OK {
		t.Errorf("%q, %v", s, e)
	}
}

// shared says whether two texts have bytes in common memory.
func shared(a, b string) bool {
	if a == "" || b == "" {
		return false
	}
	p, q := uintptr(unsafe.Pointer(unsafe.StringData(a))), uintptr(unsafe.Pointer(unsafe.StringData(b)))
	return p < q+uintptr(len(b)) && q < p+uintptr(len(a))
}

// wantNew asks that none of these shares memory with any of those.
func wantNew(t *testing.T, call string, answered, given []string) {
	t.Helper()
	for _, a := range answered {
		for _, g := range given {
			if shared(a, g) {
				t.Errorf("%s: %q shares memory with %q", call, a, g)
			}
		}
	}
}

// held are the texts in a dependency.
func held(d api.Dep) []string { return []string{d.Name, d.EVR.Ver, d.EVR.Rel} }

// R1: what is answered shares no memory with what was given, and that is as it was.
func TestAnswersAreNew(t *testing.T) {
	for _, c := range texts {
		given := strings.Clone(strings.Join(c.l, " "))
		d, _ := dep.Parse(given)
		wantNew(t, "Parse", held(d), []string{given})
		s, _ := dep.Show(d)
		wantNew(t, "Show", []string{s}, held(d))
		l, _ := dep.Words(d)
		wantNew(t, "Words", l, held(d))
		of, _ := dep.Of(l...)
		wantNew(t, "Of", held(of), l)
		if !slices.Equal(l, c.l) {
			t.Errorf("Of(%q) changed them to %q", c.l, l)
		}
		wantNew(t, "Own", held(dep.Own(d.Name, d.EVR)), held(d))
		other, _ := dep.Words(d)
		other[0] = "x"
		if l[0] != c.l[0] {
			t.Errorf("Words(%+v) is one list each time", d)
		}
	}
}
