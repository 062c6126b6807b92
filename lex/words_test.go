package lex_test

import (
	"regexp"
	"slices"
	"strings"
	"testing"
	"unsafe"

	"chandlery/api"
	"chandlery/lex"
)

var wordForm = regexp.MustCompile(`[()]|[!-'*-~]+`)

// expected is what Words has to answer, found by other means than the program's.
func expected(s string) ([]lex.Word, int, api.Errno) {
	if len(s) > lex.MaxText {
		return nil, 0, api.ErrTooLarge
	}
	for i, c := range []byte(s) {
		if c < 32 || c > 126 {
			return nil, i, api.ErrForm
		}
	}
	var l []lex.Word
	for _, at := range wordForm.FindAllStringIndex(s, -1) {
		l = append(l, lex.Word{Text: s[at[0]:at[1]], At: at[0]})
	}
	return l, 0, api.OK
}

// wantExpected asks Words for what is found by other means.
func wantExpected(t *testing.T, s string) {
	t.Helper()
	want, wantPlace, wantError := expected(s)
	l, place, e := lex.Words(s)
	if !slices.Equal(l, want) || place != wantPlace || e != wantError {
		t.Errorf("Words(%.80q): %v, %d, %v, want %v, %d, %v", s, l, place, e, want, wantPlace, wantError)
	}
}

// wantWords asks Words for these.
func wantWords(t *testing.T, s string, want ...lex.Word) {
	t.Helper()
	if l, place, e := lex.Words(s); !slices.Equal(l, want) || place != 0 || e != api.OK {
		t.Errorf("Words(%.80q): %v, %d, %v, want %v", s, l, place, e, want)
	}
}

// wantWrong asks Words for an error (R1: nothing beside it and its place).
func wantWrong(t *testing.T, s string, wantPlace int, wantError api.Errno) {
	t.Helper()
	if l, place, e := lex.Words(s); l != nil || place != wantPlace || e != wantError {
		t.Errorf("Words(%.80q): %v, %d, %v, want %d, %v", s, l, place, e, wantPlace, wantError)
	}
}

// eachText calls f with all texts of up to so many of the pieces.
func eachText(pieces []string, most int, f func(string)) {
	f("")
	if most == 0 {
		return
	}
	for _, p := range pieces {
		eachText(pieces, most-1, func(s string) { f(p + s) })
	}
}

// P7.1: the chapter's examples.
func TestWordsExamples(t *testing.T) {
	wantWords(t, "(a and b>1)", lex.Word{Text: "(", At: 0}, lex.Word{Text: "a", At: 1}, lex.Word{Text: "and", At: 3}, lex.Word{Text: "b>1", At: 7}, lex.Word{Text: ")", At: 10})
	wantWords(t, "a(b", lex.Word{Text: "a", At: 0}, lex.Word{Text: "(", At: 1}, lex.Word{Text: "b", At: 2})
	wantWrong(t, "\t", 0, api.ErrForm)
}

// P7.1: ordinary texts, and parentheses beside one another and beside words.
func TestWords(t *testing.T) {
	wantWords(t, "")
	wantWords(t, " ")
	wantWords(t, "     ")
	wantWords(t, "a", lex.Word{Text: "a", At: 0})
	wantWords(t, " a ", lex.Word{Text: "a", At: 1})
	wantWords(t, "a b", lex.Word{Text: "a", At: 0}, lex.Word{Text: "b", At: 2})
	wantWords(t, "libfoo >= 2:1.4-1", lex.Word{Text: "libfoo", At: 0}, lex.Word{Text: ">=", At: 7}, lex.Word{Text: "2:1.4-1", At: 10})
	wantWords(t, "libfoo>=2:1.4-1", lex.Word{Text: "libfoo>=2:1.4-1", At: 0})
	wantWords(t, "  /usr/bin/sh   ,\"x\" ", lex.Word{Text: "/usr/bin/sh", At: 2}, lex.Word{Text: ",\"x\"", At: 16})
	wantWords(t, "(", lex.Word{Text: "(", At: 0})
	wantWords(t, ")", lex.Word{Text: ")", At: 0})
	wantWords(t, "()", lex.Word{Text: "(", At: 0}, lex.Word{Text: ")", At: 1})
	wantWords(t, ")(", lex.Word{Text: ")", At: 0}, lex.Word{Text: "(", At: 1})
	wantWords(t, "((", lex.Word{Text: "(", At: 0}, lex.Word{Text: "(", At: 1})
	wantWords(t, "))", lex.Word{Text: ")", At: 0}, lex.Word{Text: ")", At: 1})
	wantWords(t, "( ) )  (", lex.Word{Text: "(", At: 0}, lex.Word{Text: ")", At: 2}, lex.Word{Text: ")", At: 4}, lex.Word{Text: "(", At: 7})
	wantWords(t, "a)(b", lex.Word{Text: "a", At: 0}, lex.Word{Text: ")", At: 1}, lex.Word{Text: "(", At: 2}, lex.Word{Text: "b", At: 3})
	wantWords(t, "libc.so.6()(64bit)", lex.Word{Text: "libc.so.6", At: 0}, lex.Word{Text: "(", At: 9}, lex.Word{Text: ")", At: 10}, lex.Word{Text: "(", At: 11}, lex.Word{Text: "64bit", At: 12}, lex.Word{Text: ")", At: 17})
	wantWords(t, "[a]{b}<c>", lex.Word{Text: "[a]{b}<c>", At: 0})
}

// P7.1: each of the 256 bytes, alone, first, within a word, last, between words, and beside parentheses.
func TestWordsEachByte(t *testing.T) {
	for b := range 256 {
		c := string([]byte{byte(b)})
		if b < 32 || b > 126 {
			wantWrong(t, c, 0, api.ErrForm)
			wantWrong(t, c+"ab", 0, api.ErrForm)
			wantWrong(t, "a"+c+"b", 1, api.ErrForm)
			wantWrong(t, "ab"+c, 2, api.ErrForm)
			wantWrong(t, "a "+c+" b", 2, api.ErrForm)
			wantWrong(t, "("+c+")", 1, api.ErrForm)
			wantWrong(t, c+c, 0, api.ErrForm)
			continue
		}
		switch c {
		case " ":
			wantWords(t, c)
			wantWords(t, c+"ab", lex.Word{Text: "ab", At: 1})
			wantWords(t, "a"+c+"b", lex.Word{Text: "a", At: 0}, lex.Word{Text: "b", At: 2})
			wantWords(t, "ab"+c, lex.Word{Text: "ab", At: 0})
			wantWords(t, "("+c+")", lex.Word{Text: "(", At: 0}, lex.Word{Text: ")", At: 2})
			wantWords(t, c+c)
		case "(", ")":
			wantWords(t, c, lex.Word{Text: c, At: 0})
			wantWords(t, c+"ab", lex.Word{Text: c, At: 0}, lex.Word{Text: "ab", At: 1})
			wantWords(t, "a"+c+"b", lex.Word{Text: "a", At: 0}, lex.Word{Text: c, At: 1}, lex.Word{Text: "b", At: 2})
			wantWords(t, "ab"+c, lex.Word{Text: "ab", At: 0}, lex.Word{Text: c, At: 2})
			wantWords(t, "("+c+")", lex.Word{Text: "(", At: 0}, lex.Word{Text: c, At: 1}, lex.Word{Text: ")", At: 2})
			wantWords(t, c+c, lex.Word{Text: c, At: 0}, lex.Word{Text: c, At: 1})
		default:
			wantWords(t, c, lex.Word{Text: c, At: 0})
			wantWords(t, c+"ab", lex.Word{Text: c + "ab", At: 0})
			wantWords(t, "a"+c+"b", lex.Word{Text: "a" + c + "b", At: 0})
			wantWords(t, "ab"+c, lex.Word{Text: "ab" + c, At: 0})
			wantWords(t, "("+c+")", lex.Word{Text: "(", At: 0}, lex.Word{Text: c, At: 1}, lex.Word{Text: ")", At: 2})
			wantWords(t, c+c, lex.Word{Text: c + c, At: 0})
		}
	}
}

// P7.1: all texts of two bytes, alone and within a text.
func TestWordsOfTwoBytes(t *testing.T) {
	for a := range 256 {
		for b := range 256 {
			s := string([]byte{byte(a), byte(b)})
			wantExpected(t, s)
			wantExpected(t, "x"+s+"(y")
		}
	}
}

// P7.1: all texts of a few pieces, held against what is found by other means.
func TestWordsAll(t *testing.T) {
	check := func(s string) { wantExpected(t, s) }
	eachText([]string{"(", ")", " ", "a", "\t"}, 7, check)
	eachText([]string{"(", ")", " ", "  ", "a", "!", "'", "*", "~", "if", "\x1f", "\x7f", "\x80"}, 4, check)
}

// P7.1: bytes that are no letters of ASCII are invalid, be they valid text or not.
func TestWordsOtherText(t *testing.T) {
	for _, s := range []string{
		"\x00", "\t", "\n", "\v", "\f", "\r", "\x1b", "\x1f", "\x7f",
		"\xff", "\xfe", "\x80", "\xa0", "\xbf", "\xc3", "\xc3\x28", "\xe2\x82", "\xed\xa0\x80", "\xc0\xa0", "\xc0\xa8",
		"\ufffd", "\u00a0", "\u2003", "\u3000", "\u0085", "\u2028", "\u00e9", "\u0301", "\uff08", "\uff09", "\uff41", "\u0661", "\u200b", "\ufeff", "\U0001f4a9", "\U0010ffff",
	} {
		wantWrong(t, s, 0, api.ErrForm)
		wantWrong(t, s+s, 0, api.ErrForm)
		wantWrong(t, "a"+s+"b", 1, api.ErrForm)
		wantWrong(t, "(a and "+s, 7, api.ErrForm)
		wantWrong(t, "(a "+s+" b)", 3, api.ErrForm)
		wantWrong(t, "   "+s, 3, api.ErrForm)
	}
}

// P7.1: a text has 0 to MaxText bytes.
func TestWordsSizes(t *testing.T) {
	if lex.MaxText != 4096 {
		t.Fatal("MaxText:", lex.MaxText)
	}
	wantWords(t, "")
	wantWords(t, "x", lex.Word{Text: "x", At: 0})
	for _, size := range []int{lex.MaxText - 1, lex.MaxText} {
		letters, spaces := strings.Repeat("x", size), strings.Repeat(" ", size)
		wantWords(t, letters, lex.Word{Text: letters, At: 0})
		wantWords(t, spaces)
		wantWords(t, spaces[1:]+"x", lex.Word{Text: "x", At: size - 1})
		wantWords(t, spaces[1:]+")", lex.Word{Text: ")", At: size - 1})
		wantWords(t, "("+letters[1:], lex.Word{Text: "(", At: 0}, lex.Word{Text: letters[1:], At: 1})
		for _, s := range []string{"(", ")", "()", "a ", " a", "a(", "ab )"} {
			s = strings.Repeat(s, size)[:size]
			wantExpected(t, s)
			if l, _, e := lex.Words(s); e != api.OK || len(l) < size/4 {
				t.Errorf("Words(%.80q): %d words, %v", s, len(l), e)
			}
		}
	}
	for _, size := range []int{lex.MaxText + 1, lex.MaxText + 2, 2 * lex.MaxText, 1 << 16, 1<<16 + 1, 1 << 20, api.MaxBytes + 1} {
		for _, s := range []string{"x", " ", "(", ")", "\t", "\xff", "a "} {
			wantWrong(t, strings.Repeat(s, size)[:size], 0, api.ErrTooLarge)
		}
	}
}

// P7.1: the place is that of the first invalid byte, wherever that is, whatever follows it.
func TestWordsPlaces(t *testing.T) {
	const s = "((libfoo >= 2:1.4-1) and  b)"
	for i := range len(s) + 1 {
		for _, c := range []string{"\t", "\x00", "\x1f", "\x7f", "\x80", "\xff", "\u00e9"} {
			wantWrong(t, s[:i]+c+s[i:], i, api.ErrForm)
			wantWrong(t, s[:i]+c+s[i:]+c, i, api.ErrForm)
			wantWrong(t, s[:i]+c+" "+c+s[i:], i, api.ErrForm)
			if i < len(s) {
				wantWrong(t, s[:i]+c+s[i+1:], i, api.ErrForm)
			}
		}
	}
}

// P7.1: an invalid byte ahead of, behind, and beyond MaxText bytes: a text that is too long is not looked into.
func TestWordsWrongByteOfLongText(t *testing.T) {
	for _, s := range []string{"x", " ", "(", "a "} {
		s = strings.Repeat(s, lex.MaxText)
		full, less := s[:lex.MaxText], s[:lex.MaxText-1]
		wantWrong(t, "\t"+less, 0, api.ErrForm)
		wantWrong(t, less+"\t", lex.MaxText-1, api.ErrForm)
		wantWrong(t, less[1:]+"\t", lex.MaxText-2, api.ErrForm)
		wantWrong(t, less[1:]+"\t\t", lex.MaxText-2, api.ErrForm)
		wantWrong(t, "\t"+full, 0, api.ErrTooLarge)
		wantWrong(t, "x\t"+full, 0, api.ErrTooLarge)
		wantWrong(t, less+"\tx", 0, api.ErrTooLarge)
		wantWrong(t, full+"\t", 0, api.ErrTooLarge)
		wantWrong(t, full+full+"\t", 0, api.ErrTooLarge)
	}
	wide := strings.Repeat("x", lex.MaxText-1) + "\u00e9" // the letter's second byte is one too many
	wantWrong(t, wide, 0, api.ErrTooLarge)
	wantWrong(t, wide[1:], lex.MaxText-2, api.ErrForm)
}

// shared says whether two texts have bytes in common memory.
func shared(a, b string) bool {
	if a == "" || b == "" {
		return false
	}
	p, q := uintptr(unsafe.Pointer(unsafe.StringData(a))), uintptr(unsafe.Pointer(unsafe.StringData(b)))
	return p < q+uintptr(len(b)) && q < p+uintptr(len(a))
}

// R1: words share no memory with the text, nor their list with that of another call.
func TestWordsAreNew(t *testing.T) {
	for _, s := range []string{"libfoo", "(libfoo and libbar) ", strings.Repeat("x", lex.MaxText)} {
		s = strings.Clone(s)
		first, _, _ := lex.Words(s)
		second, _, _ := lex.Words(s)
		if len(first) == 0 || !slices.Equal(first, second) {
			t.Errorf("Words(%.80q): %v, then %v", s, first, second)
		}
		for _, w := range first {
			if shared(w.Text, s) {
				t.Errorf("Words(%.80q): %.80q shares memory with the text", s, w.Text)
			}
		}
		before := slices.Clone(second)
		clear(first)
		if !slices.Equal(second, before) {
			t.Errorf("Words(%.80q): another answer has changed", s)
		}
	}
}
