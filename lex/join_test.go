package lex_test

import (
	"slices"
	"strings"
	"testing"

	"chandlery/lex"
)

// joined is what Join has to answer, found by other means than the program's: words with marks around them (\x01 and \x02, which no word of the tests has), of which those next to parentheses then lose their space.
func joined(l []string) string {
	if len(l) == 0 {
		return ""
	}
	s := "\x01" + strings.Join(l, "\x02 \x01") + "\x02"
	for before := ""; before != s; {
		before = s
		s = strings.ReplaceAll(s, "\x01(\x02 ", "\x01(\x02")
		s = strings.ReplaceAll(s, " \x01)\x02", "\x01)\x02")
	}
	return strings.NewReplacer("\x01", "", "\x02", "").Replace(s)
}

// eachList calls f with all lists of up to so many of the words.
func eachList(words []string, most int, f func([]string)) {
	f(nil)
	if most == 0 {
		return
	}
	for _, w := range words {
		eachList(words, most-1, func(l []string) { f(append([]string{w}, l...)) })
	}
}

// P7.2: the chapter's example, and others: no words, empty ones, words with spaces within, parentheses alone.
func TestJoin(t *testing.T) {
	for _, c := range []struct {
		want string
		l    []string
	}{
		{"(a b)", []string{"(", "a", "b", ")"}},
		{"", nil},
		{"", []string{}},
		{"", []string{""}},
		{" ", []string{"", ""}},
		{"  ", []string{"", "", ""}},
		{"a", []string{"a"}},
		{"a b", []string{"a", "b"}},
		{"a ", []string{"a", ""}},
		{" a", []string{"", "a"}},
		{"a  b", []string{"a", "", "b"}},
		{"(a or (b if c >= 1.2))", []string{"(", "a", "or", "(", "b", "if", "c", ">=", "1.2", ")", ")"}},
		{"libfoo >= 2:1.4-1", []string{"libfoo", ">=", "2:1.4-1"}},
		{"(", []string{"("}},
		{")", []string{")"}},
		{"((", []string{"(", "("}},
		{"))", []string{")", ")"}},
		{"()", []string{"(", ")"}},
		{") (", []string{")", "("}},
		{"(()) ()", []string{"(", "(", ")", ")", "(", ")"}},
		{"a (b) c", []string{"a", "(", "b", ")", "c"}},
		{"(", []string{"(", ""}},
		{" (", []string{"", "("}},
		{")", []string{"", ")"}},
		{") ", []string{")", ""}},
		{"()", []string{"(", "", ")"}},
		{"( )", []string{"(", "", "", ")"}},
		{"  ", []string{" ", ""}},
		{"   ", []string{" ", " "}},
		{"a b c", []string{"a b", "c"}},
		{" a   b ", []string{" a ", " b "}},
		{"( )", []string{"(", " ", ")"}},
		{"(( a", []string{"((", "a"}}, // (( is no parenthesis by itself
		{"a ))", []string{"a", "))"}},
		{"a( b", []string{"a(", "b"}},
		{"a )b", []string{"a", ")b"}},
		{"(  a", []string{"( ", "a"}},
		{"a  )", []string{"a", " )"}},
		{"[ a ]", []string{"[", "a", "]"}},
		{"\t \xff \u00e9", []string{"\t", "\xff", "\u00e9"}},
		{"\uff08 a \uff09", []string{"\uff08", "a", "\uff09"}},
	} {
		if got := lex.Join(c.l); got != c.want {
			t.Errorf("Join(%q): %q, want %q", c.l, got, c.want)
		}
	}
}

// P7.2: all lists of a few words, held against what is found by other means.
func TestJoinAll(t *testing.T) {
	check := func(l []string) {
		if got, want := lex.Join(l), joined(l); got != want {
			t.Errorf("Join(%q): %q, want %q", l, got, want)
		}
	}
	eachList([]string{"(", ")", "a", "", " "}, 6, check)
	eachList([]string{"(", ")", "a", "", " ", "b c", "((", "()", ")b", "c(", "\xff"}, 4, check)
}

// P7.2: each of the 256 bytes as a word, ahead of, behind, and between others: only the parentheses stand close.
func TestJoinEachByte(t *testing.T) {
	for b := range 256 {
		c := string([]byte{byte(b)})
		before, after := " ", " "
		switch c {
		case "(":
			after = ""
		case ")":
			before = ""
		}
		for _, w := range []struct{ got, want string }{
			{lex.Join([]string{c}), c},
			{lex.Join([]string{c, "a"}), c + after + "a"},
			{lex.Join([]string{"a", c}), "a" + before + c},
			{lex.Join([]string{"a", c, "b"}), "a" + before + c + after + "b"},
		} {
			if w.got != w.want {
				t.Errorf("Join with %q: %q, want %q", c, w.got, w.want)
			}
		}
	}
}

// P7.2: many words, and long ones; what is joined may be longer than a text.
func TestJoinLong(t *testing.T) {
	const many = 200000
	l := make([]string, many)
	for i := range l {
		l[i] = "ab"
	}
	if got := lex.Join(l); got != strings.Repeat("ab ", many)[:3*many-1] {
		t.Error("many words: wrong, bytes:", len(got))
	}
	for i := range l {
		l[i] = "("
	}
	if got := lex.Join(l); got != strings.Repeat("(", many) {
		t.Error("many parentheses: wrong, bytes:", len(got))
	}
	long := strings.Repeat("x", 1<<20)
	if got := lex.Join([]string{long, "(", long, ")", long}); got != long+" ("+long+") "+long {
		t.Error("long words: wrong, bytes:", len(got))
	}
}

// R1: the list is not changed, and the answer shares no memory with it; it is the same each time.
func TestJoinIsNew(t *testing.T) {
	for _, l := range [][]string{{"libfoo"}, {"libfoo", "libbar"}, {"", "libfoo"}, {"(", "libfoo", ")"}, {strings.Repeat("x", lex.MaxText)}} {
		before := slices.Clone(l)
		got := lex.Join(l)
		if !slices.Equal(l, before) {
			t.Errorf("Join(%.80q) has changed its list to %.80q", before, l)
		}
		for _, w := range l {
			if shared(got, w) {
				t.Errorf("Join(%.80q) shares memory with %.80q", l, w)
			}
		}
		if again := lex.Join(l); again != got {
			t.Errorf("Join(%.80q): %.80q, then %.80q", l, got, again)
		}
	}
	l := []string{"a", ")", "b"}
	lex.Join(l[:1]) // what stands behind the list does not count, and stays
	if got := lex.Join(l[:1]); got != "a" || !slices.Equal(l, []string{"a", ")", "b"}) {
		t.Errorf("%q, %q", got, l)
	}
}
