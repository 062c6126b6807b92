package span_test

import (
	"strings"
	"testing"

	"chandlery/api"
	"chandlery/span"
)

// ops are the Ops that are valid, with their texts.
var ops = []struct {
	op   uint8
	text string
}{
	{api.Any, ""},
	{api.Less, "<"},
	{api.Equal, "="},
	{api.Greater, ">"},
	{api.Less | api.Equal, "<="},
	{api.Greater | api.Equal, ">="},
}

// P4.1: the six Ops are valid, and have their texts.
func TestValidOps(t *testing.T) {
	for _, c := range ops {
		if !span.May(c.op) {
			t.Errorf("May(%d): false", c.op)
		}
		if got := span.Text(c.op); got != c.text {
			t.Errorf("Text(%d): %q, want %q", c.op, got, c.text)
		}
		if got, ok := span.Parse(c.text); got != c.op || !ok {
			t.Errorf("Parse(%q): %d, %v, want %d", c.text, got, ok, c.op)
		}
	}
}

// P4.1: each other number of a byte is invalid, and has no text.
func TestInvalidOps(t *testing.T) {
	valid := 0
	for n := range 256 {
		op := uint8(n)
		if n == 0 || n == 1 || n == 2 || n == 3 || n == 4 || n == 6 {
			valid++
			continue
		}
		if span.May(op) {
			t.Errorf("May(%d): true", op)
		}
		if s := span.Text(op); s != "" {
			t.Errorf("Text(%d): %q", op, s)
		}
	}
	if valid != len(ops) {
		t.Error("valid Ops:", valid)
	}
}

// P4.1: texts that are no Op's have no Op (and the number beside that is 0).
func TestParseInvalid(t *testing.T) {
	for _, s := range []string{
		"=<", "=>", "==", "<>", "><", "!=", "<<", ">>", "<=>", "<==", ">==", "<=<", "~", "^", "~=",
		" ", " <", "< ", "< =", "=\n", "\t>", "a", "0", "1", "2", "any", "lt", "eq", "(", ")", "-", ":",
		"\x00", "\x01", "\x02", "=\x00", "<=\x00", "\xff", "<\xff", "\u2264", "\u2265", "\u2260", "\uff1c", "\uff1d",
		strings.Repeat("<", 100000), strings.Repeat("=", 100000), "<=" + strings.Repeat(" ", 100000),
	} {
		if op, ok := span.Parse(s); op != 0 || ok {
			t.Errorf("Parse(%.20q): %d, %v", s, op, ok)
		}
	}
}

// P4.1: all texts of up to two bytes, and of three out of some bytes.
func TestParseAll(t *testing.T) {
	want := map[string]uint8{}
	for _, c := range ops {
		want[c.text] = c.op
	}
	check := func(bytes ...byte) {
		s := string(bytes)
		op, ok := span.Parse(s)
		if expected, is := want[s]; op != expected || ok != is {
			t.Fatalf("Parse(%q): %d, %v", s, op, ok)
		}
	}
	check()
	for a := range 256 {
		check(byte(a))
		for b := range 256 {
			check(byte(a), byte(b))
			for _, c := range []byte("<=> \x00") {
				check(byte(a), byte(b), c)
			}
		}
	}
}

// P4.1: Parse of Text is the Op, Text of Parse the text.
func TestBack(t *testing.T) {
	texts := map[string]int{}
	for n := range 256 {
		op := uint8(n)
		if !span.May(op) {
			continue
		}
		s := span.Text(op)
		if back, ok := span.Parse(s); back != op || !ok {
			t.Errorf("Parse(Text(%d)): %d, %v", op, back, ok)
		}
		texts[s]++
	}
	if len(texts) != len(ops) {
		t.Error("texts of valid Ops:", texts)
	}
}
