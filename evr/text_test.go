package evr_test

import (
	"math"
	"regexp"
	"strconv"
	"strings"
	"testing"
	"unsafe"

	"chandlery/api"
	"chandlery/evr"
)

// wantText asks Show for a text, and Parse for what it is the text of.
func wantText(t *testing.T, e api.EVR, s string) {
	t.Helper()
	if got, f := evr.Show(e); got != s || f != api.OK {
		t.Errorf("Show(%+v): %q, %v, want %q", e, got, f, s)
	}
	if got, f := evr.Parse(s); got != e || f != api.OK {
		t.Errorf("Parse(%q): %+v, %v, want %+v", s, got, f, e)
	}
}

// P3.1: the texts of EVRs, with and without an Epoch, with and without a Rel.
func TestText(t *testing.T) {
	longest := strings.Repeat("9", api.MaxName)
	for _, c := range []struct {
		e api.EVR
		s string
	}{
		{api.EVR{Epoch: 1, Ver: "2.0", Rel: "3"}, "1:2.0-3"},
		{api.EVR{Ver: "2.0"}, "2.0"},
		{api.EVR{Ver: "1"}, "1"},
		{api.EVR{Ver: "0"}, "0"},
		{api.EVR{Ver: "00", Rel: "00"}, "00-00"},
		{api.EVR{Ver: "2.0", Rel: "3"}, "2.0-3"},
		{api.EVR{Epoch: 1, Ver: "2.0"}, "1:2.0"},
		{api.EVR{Epoch: 1, Ver: "0", Rel: "0"}, "1:0-0"},
		{api.EVR{Epoch: 10, Ver: "1"}, "10:1"},
		{api.EVR{Epoch: 907, Ver: "a", Rel: "Z"}, "907:a-Z"},
		{api.EVR{Epoch: api.MaxEpoch, Ver: "1", Rel: "1"}, "2147483647:1-1"},
		{api.EVR{Epoch: api.MaxEpoch - 1, Ver: "1"}, "2147483646:1"},
		{api.EVR{Ver: "~", Rel: "^"}, "~-^"},
		{api.EVR{Ver: "._+~^", Rel: "._+~^"}, "._+~^-._+~^"},
		{api.EVR{Epoch: 1, Ver: "+", Rel: "+1"}, "1:+-+1"},
		{api.EVR{Ver: mayBytes[:api.MaxName], Rel: mayBytes[len(mayBytes)-api.MaxName:]}, mayBytes[:api.MaxName] + "-" + mayBytes[len(mayBytes)-api.MaxName:]},
		{api.EVR{Epoch: api.MaxEpoch, Ver: longest, Rel: longest}, "2147483647:" + longest + "-" + longest},
		{api.EVR{Ver: longest}, longest},
	} {
		wantText(t, c.e, c.s)
	}
}

// P3.1: Epochs around each power of ten, each as its digits.
func TestTextOfEpochs(t *testing.T) {
	for power := 1; power <= api.MaxEpoch; power *= 10 {
		for _, n := range []int{power - 1, power, power + 1, power*2 + 1} {
			if n > 0 {
				wantText(t, api.EVR{Epoch: n, Ver: "1", Rel: "1"}, strconv.Itoa(n)+":1-1")
			}
		}
	}
}

// P3.1: what is invalid in a dependency has no text (R1: nothing beside the error).
func TestShowInvalid(t *testing.T) {
	long := strings.Repeat("1", api.MaxName+1)
	for _, e := range []api.EVR{
		{},
		{Epoch: 1},
		{Rel: "1"},
		{Epoch: -1, Ver: "1", Rel: "1"},
		{Epoch: math.MinInt, Ver: "1"},
		{Epoch: api.MaxEpoch + 1, Ver: "1", Rel: "1"},
		{Epoch: 1 << 32, Ver: "1", Rel: "1"},
		{Epoch: math.MaxInt, Ver: "1"},
		{Ver: long, Rel: "1"},
		{Ver: "1", Rel: long},
		{Ver: "1-1"},
		{Ver: "1", Rel: "1-1"},
		{Ver: "1:1"},
		{Ver: "1", Rel: "1:1"},
		{Ver: "1 ", Rel: "1"},
		{Ver: "1", Rel: "-"},
		{Ver: "/", Rel: "1"},
		{Ver: "1\n"},
		{Ver: "\x00", Rel: "1"},
		{Ver: "1", Rel: "\xff"},
		{Ver: "\u00e9", Rel: "1"},
	} {
		if s, f := evr.Show(e); s != "" || f != api.ErrForm {
			t.Errorf("Show(%+v): %q, %v", e, s, f)
		}
	}
}

// P3.1: what is the text of none (R1: nothing beside the error).
func TestParseInvalid(t *testing.T) {
	long := strings.Repeat("1", api.MaxName+1)
	for _, s := range []string{
		"",
		"0:1", "00:1", "01:1", "001:1-1", "0:0", "0:1-1", "02147483647:1", // zeros ahead
		":1", ":", ":1-1", "::1", // no digits ahead of the colon
		"2147483648:1", "4294967296:1", "4294967297:1-1", "18446744073709551617:1", "9223372036854775808:1", "1" + strings.Repeat("0", 100000) + ":1", // too large
		"-1:1", "+1:1", "-0:1", "1_0:1", "0x1:1", "1e1:1", "1.0:1", "a:1", "1a:1", "~1:1", " 1:1", "1 :1", "\u0661:1", // not digits alone
		"1:", "1:-", "1:-1", "-", "-1", "--", // no version
		"1-", "1:1-", "1.0-", // a - with nothing behind it
		"1-2-3", "1--", "1--2", "1-2-", "-1-2", "1:1-2-3", // more than one -
		"1:2:3", "1:1:1-1", "1-1:1", "1:1-1:1", "1::1", // a colon elsewhere
		long, "1:" + long, "1-" + long, long + "-1", "1:1-" + long, strings.Repeat("1", 100000), // too long
		" 1", "1 ", "1\n", "1-1\n", "1/2", "1,2", "1=1", "(1)", "1\x00", "\xff", "1-\xff", "\u00e9", "1-\u0661", // bytes of none
	} {
		if e, f := evr.Parse(s); e != (api.EVR{}) || f != api.ErrForm {
			t.Errorf("Parse(%.40q): %+v, %v", s, e, f)
		}
	}
}

// P3.1: each byte within a text.
func TestParseBytes(t *testing.T) {
	for b := range 256 {
		c := string([]byte{byte(b)})
		for _, p := range [][2]string{{"", ""}, {"2", "2"}, {"2-1", "1"}, {"2:", ""}, {"2:1-", ""}, {"2-", ""}} {
			s := p[0] + c + p[1]
			want, ok := expectedEVR(s)
			got, f := evr.Parse(s)
			if got != want || (f == api.OK) != ok || !ok && f != api.ErrForm {
				t.Errorf("Parse(%q): %+v, %v, want %+v", s, got, f, want)
			}
		}
	}
}

var textForm = regexp.MustCompile(`^(?:([1-9][0-9]{0,9}):)?([a-zA-Z0-9._+~^]{1,64})(?:-([a-zA-Z0-9._+~^]{1,64}))?$`)

// expectedEVR is what Parse has to answer, found by other means than the program's.
func expectedEVR(s string) (api.EVR, bool) {
	m := textForm.FindStringSubmatch(s)
	if m == nil {
		return api.EVR{}, false
	}
	epoch, _ := strconv.ParseInt("0"+m[1], 10, 64)
	if epoch > 1<<31-1 {
		return api.EVR{}, false
	}
	return api.EVR{Epoch: int(epoch), Ver: m[2], Rel: m[3]}, true
}

// eachText calls f with all texts of up to so many bytes of the alphabet.
func eachText(alphabet string, most int, f func(string)) {
	f("")
	for i := range len(alphabet) {
		if most > 0 {
			eachText(alphabet, most-1, func(s string) { f(alphabet[i:i+1] + s) })
		}
	}
}

// P3.1, P3.3: all short texts, held against what is found by other means; Show of Parse is the text.
func TestParseAll(t *testing.T) {
	texts := 0
	eachText("01a~+:-\xe9", 6, func(s string) {
		want, ok := expectedEVR(s)
		got, f := evr.Parse(s)
		if got != want || (f == api.OK) != ok || !ok && f != api.ErrForm {
			t.Fatalf("Parse(%q): %+v, %v, want %+v", s, got, f, want)
		}
		if !ok {
			return
		}
		texts++
		if back, f := evr.Show(got); back != s || f != api.OK {
			t.Fatalf("Show of Parse(%q): %q, %v", s, back, f)
		}
	})
	if texts < 1000 {
		t.Error("too few texts of an EVR among them:", texts)
	}
}

// P3.3: Parse of Show is the EVR, for each that is valid in a dependency; no two have the same text.
func TestParseOfShow(t *testing.T) {
	seen := map[string]api.EVR{}
	longest := strings.Repeat("a", api.MaxName)
	for _, epoch := range []int{0, 1, 9, 10, 1<<31 - 2, 1<<31 - 1} {
		for _, ver := range []string{"1", "0", "01", "1.0", "~", "^a", ".", "+1", "1_0", "0x1", longest} {
			for _, rel := range []string{"", "0", "1", "01", "~", ".", "+", longest} {
				e := api.EVR{Epoch: epoch, Ver: ver, Rel: rel}
				s, f := evr.Show(e)
				if f != api.OK {
					t.Fatalf("Show(%+v): %v", e, f)
				}
				if back, f := evr.Parse(s); back != e || f != api.OK {
					t.Fatalf("Parse(%q): %+v, %v, want %+v", s, back, f, e)
				}
				if other, twice := seen[s]; twice {
					t.Fatalf("%q is the text of both %+v and %+v", s, other, e)
				}
				seen[s] = e
			}
		}
	}
}

// shared says whether two texts have bytes in common memory.
func shared(a, b string) bool {
	if a == "" || b == "" {
		return false
	}
	p, q := uintptr(unsafe.Pointer(unsafe.StringData(a))), uintptr(unsafe.Pointer(unsafe.StringData(b)))
	return p < q+uintptr(len(b)) && q < p+uintptr(len(a))
}

// R1: what is answered shares no memory with what was given.
func TestAnswersAreNew(t *testing.T) {
	for _, s := range []string{"1.20", "1.20-33", "12:1.20", "12:1.20-33"} {
		s = strings.Clone(s)
		e, _ := evr.Parse(s)
		if shared(e.Ver, s) || shared(e.Rel, s) {
			t.Errorf("Parse(%q) shares memory with the text", s)
		}
		if text, _ := evr.Show(e); shared(text, e.Ver) || shared(text, e.Rel) {
			t.Errorf("Show(%+v) shares memory with the EVR", e)
		}
	}
}
