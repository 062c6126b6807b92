package vercmp_test

import (
	"slices"
	"strings"
	"testing"
	"unsafe"

	"chandlery/vercmp"
)

// show tells parts as a text: a word and a number by an initial and their texts.
func show(l []vercmp.Part) string {
	var told []string
	for _, p := range l {
		switch p.Kind {
		case vercmp.Tilde:
			told = append(told, "~"+p.S)
		case vercmp.Caret:
			told = append(told, "^"+p.S)
		case vercmp.Word:
			told = append(told, "W"+p.S)
		case vercmp.Number:
			told = append(told, "N"+p.S)
		default:
			told = append(told, "?"+p.S)
		}
	}
	return strings.Join(told, " ")
}

// P2.1: the kinds have their numbers, the least first.
func TestKinds(t *testing.T) {
	got := []uint8{vercmp.Tilde, vercmp.End, vercmp.Caret, vercmp.Word, vercmp.Number}
	if !slices.Equal(got, []uint8{1, 2, 3, 4, 5}) {
		t.Error(got)
	}
}

// P2.1: the parts of a version, in order.
func TestParts(t *testing.T) {
	for _, c := range []struct{ s, want string }{
		{"", ""},
		{"1", "N1"},
		{"1.2.3", "N1 N2 N3"},
		{"1~rc", "N1 ~ Wrc"},
		{"1^post", "N1 ^ Wpost"},
		{"1.a", "N1 Wa"},
		{"1.0a", "N1 N Wa"},
		{"01.00", "N1 N"},
		{"1_0", "N1 N"},
		{"5p10q", "N5 Wp N10 Wq"},
		{"aZzA", "WaZzA"},
		{"a.b", "Wa Wb"},
		{"a1b", "Wa N1 Wb"},
		{"~~^^~", "~ ~ ^ ^ ~"},
		{"..1..2..", "N1 N2"},
		{"+-_. :/", ""},
		{"0", "N"},
		{"000", "N"},
		{"0010", "N10"},
		{"0.0", "N N"},
		{"100", "N100"},
		{"1 2", "N1 N2"},
		{"1\x002", "N1 N2"},
		{"a\xc3\xa9b", "Wa Wb"},
		{"1\xff\xfe2", "N1 N2"},
		{"1\u0661", "N1"},
		{"\x00\x80\xff", ""},
	} {
		if got := show(vercmp.Parts(c.s)); got != c.want {
			t.Errorf("Parts(%q): %q, want %q", c.s, got, c.want)
		}
	}
}

// P2.1: what each single byte is, alone and between two digits.
func TestPartsOfEachByte(t *testing.T) {
	const digits, letters = "0123456789", "abcdefghijklmnopqrstuvwxyzABCDEFGHIJKLMNOPQRSTUVWXYZ"
	for b := range 256 {
		s := string([]byte{byte(b)})
		alone, between := "", "N1 N1"
		switch {
		case s == "~", s == "^":
			alone, between = s, "N1 "+s+" N1"
		case s == "0":
			alone, between = "N", "N101"
		case strings.Contains(digits, s):
			alone, between = "N"+s, "N1"+s+"1"
		case strings.Contains(letters, s):
			alone, between = "W"+s, "N1 W"+s+" N1"
		}
		if got := show(vercmp.Parts(s)); got != alone {
			t.Errorf("Parts(%q): %q, want %q", s, got, alone)
		}
		if got := show(vercmp.Parts("1" + s + "1")); got != between {
			t.Errorf("Parts(%q): %q, want %q", "1"+s+"1", got, between)
		}
	}
}

// P2.1: runs are the longest ones, however long.
func TestPartsOfLongRuns(t *testing.T) {
	digits, letters := strings.Repeat("907", 100000), strings.Repeat("aZ", 100000)
	got := vercmp.Parts(strings.Repeat("0", 50000) + digits + letters + "0" + strings.Repeat("~", 1000))
	if len(got) != 1003 {
		t.Fatal("parts:", len(got))
	}
	want := []vercmp.Part{{Kind: vercmp.Number, S: digits}, {Kind: vercmp.Word, S: letters}, {Kind: vercmp.Number}, {Kind: vercmp.Tilde}}
	if !slices.Equal(got[:4], want) {
		t.Error("a long run is not one part")
	}
}

// shared says whether two texts have bytes in common memory.
func shared(a, b string) bool {
	if a == "" || b == "" {
		return false
	}
	p, q := uintptr(unsafe.Pointer(unsafe.StringData(a))), uintptr(unsafe.Pointer(unsafe.StringData(b)))
	return p < q+uintptr(len(b)) && q < p+uintptr(len(a))
}

// R1: parts share no memory with the version, nor with those of another call.
func TestPartsAreNew(t *testing.T) {
	s := strings.Repeat("12ab~", 3)
	first, second := vercmp.Parts(s), vercmp.Parts(s)
	for i, p := range first {
		if shared(p.S, s) {
			t.Errorf("part %d shares memory with the version", i)
		}
	}
	first[0] = vercmp.Part{Kind: vercmp.Caret, S: "x"}
	if second[0] != (vercmp.Part{Kind: vercmp.Number, S: "12"}) {
		t.Error("another answer has changed:", second[0])
	}
}
