package lex_test

import (
	"slices"
	"strings"
	"testing"

	"chandlery/api"
	"chandlery/lex"
)

// textsOf are words without their places; the test ends if there is an error.
func textsOf(t *testing.T, s string) []string {
	t.Helper()
	l, place, e := lex.Words(s)
	if place != 0 || e != api.OK {
		t.Fatalf("Words(%.80q): %d, %v", s, place, e)
	}
	var texts []string
	for _, w := range l {
		texts = append(texts, w.Text)
	}
	return texts
}

// some are texts, with their words.
var some = []struct {
	s string
	l []string
}{
	{"", nil},
	{"  ", nil},
	{"a", []string{"a"}},
	{" a", []string{"a"}},
	{"a ", []string{"a"}},
	{"ab cd", []string{"ab", "cd"}},
	{"(", []string{"("}},
	{")", []string{")"}},
	{")(", []string{")", "("}},
	{"((a))", []string{"(", "(", "a", ")", ")"}},
	{"a(b", []string{"a", "(", "b"}},
	{"a)b", []string{"a", ")", "b"}},
	{"(a and b>1)", []string{"(", "a", "and", "b>1", ")"}},
	{"(a or (b if c >= 1.2))", []string{"(", "a", "or", "(", "b", "if", "c", ">=", "1.2", ")", ")"}},
	{"(a if b else (c or d))", []string{"(", "a", "if", "b", "else", "(", "c", "or", "d", ")", ")"}},
	{"libfoo >= 2:1.4-1", []string{"libfoo", ">=", "2:1.4-1"}},
	{"/usr/bin/sh  unless ~^!", []string{"/usr/bin/sh", "unless", "~^!"}},
}

// wantBack asks for the words of joined words: they are the same, each at its place, which is where the text without the words ahead begins, but for the space.
func wantBack(t *testing.T, l []string) {
	t.Helper()
	var want []lex.Word
	for i, text := range l {
		at := len(lex.Join(l[:i+1])) - len(text)
		want = append(want, lex.Word{Text: text, At: at})
	}
	s := lex.Join(l)
	if got, place, e := lex.Words(s); !slices.Equal(got, want) || place != 0 || e != api.OK {
		t.Errorf("Words(%.80q): %v, %d, %v, want %v", s, got, place, e, want)
	}
}

// P7.3: the words of joined words.
func TestBack(t *testing.T) {
	eachList([]string{"(", ")", "a", "if", "!~"}, 6, func(l []string) { wantBack(t, l) })
	eachList([]string{"(", ")", "!", "'", "*", "~", "a", "Z", "0", ">=", "2:1.4-1", "/usr/bin/sh"}, 4, func(l []string) { wantBack(t, l) })
	for _, c := range some {
		wantBack(t, c.l)
	}
	for b := 33; b <= 126; b++ {
		c := string([]byte{byte(b)})
		wantBack(t, []string{c})
		wantBack(t, []string{c, c, "a", c})
	}
}

// P7.3: the words of as many joined words as a text holds, and of one more.
func TestBackOfLong(t *testing.T) {
	l := make([]string, lex.MaxText/2+1)
	for i := range l {
		l[i] = "x"
	}
	wantBack(t, l[1:])
	wantWrong(t, lex.Join(l), 0, api.ErrTooLarge)
	wantBack(t, []string{strings.Repeat("x", lex.MaxText)})
	wantBack(t, []string{"(", strings.Repeat("x", lex.MaxText-2), ")"})
	wantBack(t, slices.Repeat([]string{"("}, lex.MaxText))
	wantBack(t, slices.Repeat([]string{"(", ")"}, lex.MaxText/3))
}

// wantPlaces asks that each word is in the text at its place, that between words there are only spaces, and that places increase.
func wantPlaces(t *testing.T, s string) {
	t.Helper()
	l, _, e := lex.Words(s)
	if e != api.OK {
		t.Fatalf("Words(%.80q): %v", s, e)
	}
	end := 0
	for i, w := range l {
		if w.Text == "" || w.At < end || !strings.HasPrefix(s[w.At:], w.Text) {
			t.Fatalf("Words(%.80q): %.80q is not at %d", s, w.Text, w.At)
		}
		if strings.Trim(s[end:w.At], " ") != "" {
			t.Fatalf("Words(%.80q): ahead of %.80q is %q", s, w.Text, s[end:w.At])
		}
		if i > 0 && w.At <= l[i-1].At {
			t.Fatalf("Words(%.80q): places do not increase", s)
		}
		end = w.At + len(w.Text)
	}
	if strings.Trim(s[end:], " ") != "" {
		t.Fatalf("Words(%.80q): behind all is %q", s, s[end:])
	}
}

// P7.4: where words are, in all texts of a few pieces.
func TestPlaces(t *testing.T) {
	check := func(s string) { wantPlaces(t, s) }
	eachText([]string{"(", ")", " ", "a"}, 7, check)
	eachText([]string{"(", ")", " ", "   ", "a", "!", "~", "and", ">=", "2:1.4-1"}, 4, check)
	for _, c := range some {
		wantPlaces(t, c.s)
		for _, other := range some {
			wantPlaces(t, c.s+other.s)
		}
		wantPlaces(t, strings.Repeat(c.s, lex.MaxText/(len(c.s)+1)))
	}
}

// spaced are words with so many spaces ahead of the first, between each two, and behind the last.
func spaced(l []string, ahead, between, behind int) string {
	return strings.Repeat(" ", ahead) + strings.Join(l, strings.Repeat(" ", between)) + strings.Repeat(" ", behind)
}

// P7.5: with additional spaces between words, before, and after them, the texts are the same, and their places those that have moved.
func TestSpaces(t *testing.T) {
	for _, c := range some {
		if got := textsOf(t, c.s); !slices.Equal(got, c.l) {
			t.Errorf("Words(%q): %q, want %q", c.s, got, c.l)
		}
		for n := range 5 * 5 * 5 {
			s := spaced(c.l, n%5, 1+n/5%5, n/25)
			if got := textsOf(t, s); !slices.Equal(got, c.l) {
				t.Errorf("Words(%q): %q, want %q", s, got, c.l)
			}
			wantExpected(t, s)
		}
		most := (lex.MaxText - len(c.s)) / 2
		if got := textsOf(t, spaced([]string{c.s}, most, 0, most)); !slices.Equal(got, c.l) {
			t.Errorf("Words(%q) with many spaces: %q, want %q", c.s, got, c.l)
		}
	}
}

// P7.5: spaces at one place of a text: beside a space or a parenthesis they change no text, within a word they part it.
func TestSpacesAtEachPlace(t *testing.T) {
	for _, c := range some {
		for i := range len(c.s) + 1 {
			within := i > 0 && i < len(c.s) && !strings.ContainsAny(c.s[i-1:i+1], " ()")
			want := c.l
			if within {
				want = append(textsOf(t, c.s[:i]), textsOf(t, c.s[i:])...)
			}
			for _, spaces := range []string{" ", "  ", "       "} {
				s := c.s[:i] + spaces + c.s[i:]
				if got := textsOf(t, s); !slices.Equal(got, want) || within != (len(got) == len(c.l)+1) {
					t.Errorf("Words(%q): %q, want %q", s, got, want)
				}
			}
		}
	}
}

// wantBoth asks of two texts joined by a space for the words of the first, followed by those of the second, at later places.
func wantBoth(t *testing.T, first, second string) {
	t.Helper()
	want, _, e := lex.Words(first)
	if e != api.OK {
		t.Fatalf("Words(%.80q): %v", first, e)
	}
	more, _, e := lex.Words(second)
	if e != api.OK {
		t.Fatalf("Words(%.80q): %v", second, e)
	}
	for _, w := range more {
		want = append(want, lex.Word{Text: w.Text, At: len(first) + 1 + w.At})
	}
	wantWords(t, first+" "+second, want...)
}

// P7.6: the words of two texts with a space between.
func TestConcatenation(t *testing.T) {
	for _, c := range some {
		for _, other := range some {
			wantBoth(t, c.s, other.s)
		}
		wantBoth(t, c.s, strings.Repeat("x", lex.MaxText-1-len(c.s)))
		wantBoth(t, strings.Repeat(")", lex.MaxText-1-len(c.s)), c.s)
		wantWrong(t, c.s+" "+strings.Repeat("x", lex.MaxText-len(c.s)), 0, api.ErrTooLarge)
	}
	eachText([]string{"(", ")", " ", "a"}, 3, func(first string) {
		eachText([]string{"(", ")", " ", "b"}, 3, func(second string) { wantBoth(t, first, second) })
	})
}

// P7.6: an invalid byte in one of the two texts, or in both: the place of the first one.
func TestConcatenationOfWrong(t *testing.T) {
	for _, c := range some {
		for _, other := range some {
			wantWrong(t, c.s+"\t "+other.s, len(c.s), api.ErrForm)
			wantWrong(t, c.s+" \x7f"+other.s, len(c.s)+1, api.ErrForm)
			wantWrong(t, c.s+" "+other.s+"\xff", len(c.s)+1+len(other.s), api.ErrForm)
			wantWrong(t, c.s+"\x80 \x00"+other.s, len(c.s), api.ErrForm)
		}
	}
}
