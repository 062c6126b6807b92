package dep_test

import (
	"slices"
	"strings"
	"testing"

	"chandlery/api"
	"chandlery/dep"
)

const nameBytes = "abcdefghijklmnopqrstuvwxyzABCDEFGHIJKLMNOPQRSTUVWXYZ0123456789._+-/:@~^"

// words are the words that are no names.
var words = []string{"and", "or", "if", "else", "unless", "with", "without"}

// wantName asks Name and File, and May, Of and Parse for what the name alone is.
func wantName(t *testing.T, s string, valid bool) {
	t.Helper()
	if got := dep.Name(s); got != valid {
		t.Errorf("Name(%.80q): %v", s, got)
	}
	if got := dep.File(s); got != (valid && s[0] == '/') {
		t.Errorf("File(%.80q): %v", s, got)
	}
	d := api.Dep{Name: s}
	if got := dep.May(d); got != valid {
		t.Errorf("May(%.80q): %v", s, got)
	}
	want, wantError := api.Dep{}, api.ErrForm
	if valid {
		want, wantError = d, api.OK
	}
	if got, e := dep.Of(s); got != want || e != wantError {
		t.Errorf("Of(%.80q): %+v, %v", s, got, e)
	}
	if got, e := dep.Parse(s); got != want || e != wantError {
		t.Errorf("Parse(%.80q): %+v, %v", s, got, e)
	}
	if got, e := dep.Show(d); got != want.Name || e != wantError {
		t.Errorf("Show(%.80q): %q, %v", s, got, e)
	}
}

// P6.1: a name has 1 to MaxName bytes, that of a file as well.
func TestNameSizes(t *testing.T) {
	for size := range 3 * api.MaxName {
		ok := size >= 1 && size <= api.MaxName
		wantName(t, strings.Repeat("a", size), ok)
		wantName(t, strings.Repeat("/", size), ok)
		wantName(t, strings.Repeat("-", size), ok)
		wantName(t, strings.Repeat("9", size), ok)
	}
	for _, size := range []int{256, 256 + 1, 256 + api.MaxName, 1 << 16, 1<<16 + 1, 1 << 20} {
		wantName(t, strings.Repeat("a", size), false)
		wantName(t, "/"+strings.Repeat("a", size), false)
	}
}

// P6.1: each of the 256 bytes in a name: alone, first, within and last, of a file's, too.
func TestNameBytes(t *testing.T) {
	valid := 0
	for b := range 256 {
		c := string([]byte{byte(b)})
		ok := strings.Contains(nameBytes, c)
		if ok {
			valid++
		}
		for _, s := range []string{c, c + "a", "a" + c + "a", "a" + c, c + c, "/" + c, "/a" + c + "a", strings.Repeat("a", api.MaxName-1) + c, c + strings.Repeat("a", api.MaxName-1)} {
			wantName(t, s, ok)
		}
	}
	if valid != 26+26+10+9 {
		t.Error("bytes that may be in a name:", valid)
	}
}

// P6.1: all texts of two bytes.
func TestNameOfTwoBytes(t *testing.T) {
	for a := range 256 {
		for b := range 256 {
			s := string([]byte{byte(a), byte(b)})
			ok := strings.Contains(nameBytes, s[:1]) && strings.Contains(nameBytes, s[1:]) && s != "or" && s != "if"
			if got := dep.Name(s); got != ok {
				t.Errorf("Name(%q): %v", s, got)
			}
			if got := dep.File(s); got != (ok && a == '/') {
				t.Errorf("File(%q): %v", s, got)
			}
		}
	}
}

// P6.1: the words that are no names; what differs from one by a byte, by a letter's size, or is longer, is a name.
func TestWordsAreNoNames(t *testing.T) {
	for _, w := range words {
		wantName(t, w, false)
		wantName(t, strings.ToUpper(w), true)
		wantName(t, strings.ToUpper(w[:1])+w[1:], true)
		wantName(t, w[:len(w)-1]+strings.ToUpper(w[len(w)-1:]), true)
		wantName(t, "/"+w, true)
		wantName(t, w+"/", true)
		wantName(t, w+w, true)
		wantName(t, w+" ", false)
		wantName(t, " "+w, false)
		wantName(t, w+"\x00", false)
		for i := range nameBytes {
			c := nameBytes[i : i+1]
			wantName(t, w+c, true)
			wantName(t, c+w, true)
			for j := range w {
				if w[j] != c[0] {
					wantName(t, w[:j]+c+w[j+1:], true)
				}
			}
		}
		for n := 1; n < len(w); n++ {
			wantName(t, w[:n], !slices.Contains(words, w[:n]))
			wantName(t, w[n:], !slices.Contains(words, w[n:]))
		}
		wantName(t, w+strings.Repeat("a", api.MaxName-len(w)), true)
		wantName(t, w+strings.Repeat("a", api.MaxName-len(w)+1), false)
	}
	for _, s := range []string{"not", "xor", "then", "withou", "withoutx", "elseif", "orelse", "any", "all", "when", "is", "unles", "andor", "ifelse"} {
		wantName(t, s, true)
	}
}

// P6.1: bytes that are no valid text, and letters and digits of other alphabets.
func TestNameOtherText(t *testing.T) {
	for _, s := range []string{
		"\xff", "\xfe", "\x80", "\xbf", "\xc3", "\xc3\x28", "\xe2\x82", "\xf0\x9f\x92", "\xed\xa0\x80", "\xc1\x81", "\xc0\xaf", "\xe0\x80\xaf", "\xf4\x90\x80\x80",
		"\ufffd", "\u00e9", "e\u0301", "\u0430", "\u0661", "\uff11", "\uff41", "\u212a", "\u017f", "\u2010", "\u2212", "\uff0f", "\u00a0", "\u200b", "\ufeff", "\U0001f4a9", "\U0010ffff",
	} {
		wantName(t, s, false)
		wantName(t, "a"+s, false)
		wantName(t, s+"a", false)
		wantName(t, "a"+s+"a", false)
		wantName(t, "/"+s, false)
		wantName(t, "/usr/"+s+"/sh", false)
	}
}

// P6.1: names of packages and other things, and those of files.
func TestNames(t *testing.T) {
	for _, s := range []string{"bash", "libfoo", "libc.so.6", "gtk+", "gcc-c++", "perl-A_B", "3proxy", "python3.12", "pkgconfig:zlib", "user@host", "a~b", "a^b", "-", ".", "_", "+", ":", "@", "~", "^", "..", "-a", "a/b", "./a", "~/a", "a/"} {
		wantName(t, s, true)
		if dep.File(s) {
			t.Errorf("File(%q): true", s)
		}
	}
	for _, s := range []string{"/", "//", "/a", "/usr/bin/sh", "/etc/passwd", "/a/", "/.", "/..", "/with", "/-", "/usr/lib64/libc.so.6", "/" + strings.Repeat("a", api.MaxName-1)} {
		wantName(t, s, true)
		if !dep.File(s) {
			t.Errorf("File(%q): false", s)
		}
	}
	for _, s := range []string{"", " ", "a b", "a ", " a", "\ta", "a\n", "a,b", "a(b)", "(a)", "libc.so.6()(64bit)", "a=1", "a<1", "a>1", "a*", "a?", "a!", "a#", "a$", "a%", "a&b", "a|b", "a;b", "a\\b", "a'b", "\"a\"", "`a`", "[a]", "{a}", "/ ", "/a b", " /a", "/a\x00", "/" + strings.Repeat("a", api.MaxName)} {
		wantName(t, s, false)
	}
}
