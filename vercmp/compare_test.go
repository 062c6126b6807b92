package vercmp_test

import (
	"math/big"
	"regexp"
	"slices"
	"strings"
	"testing"

	"chandlery/vercmp"
)

var partForm = regexp.MustCompile(`~|\^|[a-zA-Z]+|[0-9]+`)

// rank is where a part stands among the kinds; no text is the end.
func rank(part string) int {
	switch {
	case part == "~":
		return 0
	case part == "":
		return 1
	case part == "^":
		return 2
	case part[0] > '9':
		return 3
	}
	return 4
}

// expected is what Compare has to answer, found by other means than the program's.
func expected(a, b string) int {
	l, m := append(partForm.FindAllString(a, -1), ""), append(partForm.FindAllString(b, -1), "")
	for i := range min(len(l), len(m)) {
		p, q := l[i], m[i]
		c := rank(p) - rank(q)
		if c == 0 && rank(p) == 4 {
			x, _ := new(big.Int).SetString(p, 10)
			y, _ := new(big.Int).SetString(q, 10)
			c = x.Cmp(y)
		} else if c == 0 {
			c = strings.Compare(p, q)
		}
		if c != 0 {
			return max(-1, min(1, c))
		}
	}
	return 0
}

// texts are all texts of at most so many bytes, of these ones.
func texts(bytes string, most int) []string {
	all, last := []string{""}, []string{""}
	for range most {
		var next []string
		for _, s := range last {
			for i := range len(bytes) {
				next = append(next, s+bytes[i:i+1])
			}
		}
		all, last = append(all, next...), next
	}
	return all
}

// wantCompare asks Compare both ways (P2.3: exchanging the arguments negates).
func wantCompare(t *testing.T, a, b string, want int) {
	t.Helper()
	if got := vercmp.Compare(a, b); got != want {
		t.Fatalf("Compare(%.40q, %.40q): %d, want %d", a, b, got, want)
	}
	if got := vercmp.Compare(b, a); got != -want {
		t.Fatalf("Compare(%.40q, %.40q): %d, want %d", b, a, got, -want)
	}
}

// P2.2: each row is above the one before it; in a row all are the same.
func TestCompareRows(t *testing.T) {
	rows := [][]string{
		{"~~", "~.~"},
		{"~"},
		{"~0", "~00"},
		{"", ".", "-_+", "\x00\xff"},
		{"^~"},
		{"^"},
		{"^1"},
		{"A"},
		{"Z"},
		{"a", ".a", "a."},
		{"a.a"},
		{"ab"},
		{"b"},
		{"0~"},
		{"0", "00", "0.", "_000"},
		{"0.0"},
		{"1~rc", "1.~rc", "01~.rc"},
		{"1~rc1", "1~rc.1", "1~rc01"},
		{"1~rc2"},
		{"1", "01", "1."},
		{"1^post"},
		{"1^post.1"},
		{"1.a", "1a", "1_a"},
		{"1.b"},
		{"1.0", "1_0", "01.00", "1..0", "1\xc3\xa90"},
		{"1.0a", "1.0.a"},
		{"1.0.0"},
		{"1.1"},
		{"1.9", "1.09"},
		{"1.10"},
		{"2"},
		{"9"},
		{"10"},
		{"99"},
		{"100"},
	}
	for i, row := range rows {
		for j, other := range rows {
			want := 0
			if i < j {
				want = -1
			} else if i > j {
				want = 1
			}
			for _, a := range row {
				for _, b := range other {
					wantCompare(t, a, b, want)
				}
			}
		}
	}
}

// P2.2: numbers of more digits than any type of the language holds.
func TestCompareLongNumbers(t *testing.T) {
	long := strings.Repeat("9", 100000)
	zeros := strings.Repeat("0", 100000)
	for _, c := range []struct {
		a, b string
		want int
	}{
		{"18446744073709551616", "0", 1},
		{"18446744073709551616", "18446744073709551615", 1},
		{"9223372036854775808", "9223372036854775807", 1},
		{"99999999999999999999", "100000000000000000000", -1},
		{"36893488147419103232", "18446744073709551616", 1},
		{long, long, 0},
		{long, "1" + zeros, -1},
		{long + "1", long + "2", -1},
		{zeros + long, long, 0},
		{zeros + "1", "2", -1},
		{zeros, "0", 0},
		{zeros, "", 1},
		{"1." + long + ".1", "1." + long + ".2", -1},
		{long, long + ".0", -1},
		{long + "~", long, -1},
	} {
		wantCompare(t, c.a, c.b, c.want)
	}
}

// P2.2: long words, and long rows of parts.
func TestCompareLongVersions(t *testing.T) {
	word, row, dots := strings.Repeat("ab", 50000), strings.Repeat("1.", 50000), strings.Repeat(".", 100000)
	wantCompare(t, word, word+"a", -1)
	wantCompare(t, word+"B", word+"a", -1)
	wantCompare(t, row, row+"0", -1)
	wantCompare(t, row+"2", row+"10", -1)
	wantCompare(t, row+"~", row, -1)
	wantCompare(t, dots, "", 0)
	wantCompare(t, "1"+dots+"2", "1.2", 0)
	wantCompare(t, strings.Repeat("~", 100001), strings.Repeat("~", 100000), -1)
	wantCompare(t, strings.Repeat("^", 100001), strings.Repeat("^", 100000), 1)
}

// P2.2: all short versions, held against what is found by other means.
func TestCompareAll(t *testing.T) {
	all := texts("~^aB01.\xe9", 3)
	for _, a := range all {
		for _, b := range all {
			if got, want := vercmp.Compare(a, b), expected(a, b); got != want {
				t.Fatalf("Compare(%q, %q): %d, want %d", a, b, got, want)
			}
		}
	}
}

// P2.3: exchanging the arguments negates; what is not above what is not above a third is not above that.
func TestOrder(t *testing.T) {
	all := texts("~^aB01.", 2)
	for _, a := range all {
		if c := vercmp.Compare(a, a); c != 0 {
			t.Fatalf("Compare(%q, itself): %d", a, c)
		}
		for _, b := range all {
			if c, d := vercmp.Compare(a, b), vercmp.Compare(b, a); c != -d {
				t.Fatalf("Compare of %q and %q: %d, %d", a, b, c, d)
			}
			for _, c := range all {
				if vercmp.Compare(a, b) <= 0 && vercmp.Compare(b, c) <= 0 && vercmp.Compare(a, c) > 0 {
					t.Fatalf("%q, %q, %q are no order", a, b, c)
				}
			}
		}
	}
}

// wantRow asks that each version is less than all that follow it.
func wantRow(t *testing.T, row ...string) {
	t.Helper()
	for i, a := range row {
		for _, b := range row[i+1:] {
			wantCompare(t, a, b, -1)
		}
	}
}

var letterLast = regexp.MustCompile(`[a-zA-Z]$`)

// P2.4: what is appended makes a version less, or greater, in this order.
func TestSuffixes(t *testing.T) {
	for _, v := range append(texts("~^aB01.", 2), "1.2.3", "2.0-rc", "1~rc", "1^post", "\xff", "a\xff") {
		for _, tail := range []string{"", "~", "^", "a", "9", ".9", "\xff"} {
			for _, word := range []string{"A", "a", "zz"} {
				for _, number := range []string{"0", "1", "007", "99999999999999999999"} {
					wantRow(t, v+"~"+tail, v, v+"^"+tail, v+"."+word, v+"."+number)
					if letterLast.MatchString(v) { // right behind a letter a word only lengthens the last one
						wantRow(t, v+"~"+tail, v, v+"^"+tail, v+word)
					} else {
						wantRow(t, v+"~"+tail, v, v+"^"+tail, v+word, v+"."+number)
					}
				}
			}
		}
	}
}

// joined is a version of these parts, with what stands ahead of each, between two and behind the last, and ahead of each number.
func joined(parts []string, between, zeros string) string {
	s := between
	for _, p := range parts {
		if rank(p) == 4 {
			p = zeros + p
		}
		s += p + between
	}
	return s
}

// P2.5: zeros ahead of a number, and bytes of no part, change nothing.
func TestNoEffect(t *testing.T) {
	others := texts("~^a01.", 3)
	for _, parts := range [][]string{{}, {"1"}, {"0"}, {"a"}, {"~"}, {"^"}, {"1", "0"}, {"1", "a", "1"}, {"a", "a"}, {"1", "~", "rc", "1"}, {"1", "^", "~"}, {"10", "0", "~", "~"}} {
		plain := strings.Join(parts, ".")
		for _, between := range []string{".", "_", "..", "+-", " ", "\x00", "\xc3\xa9", "\xff.\x80"} {
			for _, zeros := range []string{"", "0", "000", strings.Repeat("0", 30)} {
				s := joined(parts, between, zeros)
				wantCompare(t, s, plain, 0)
				for _, other := range others {
					if got, want := vercmp.Compare(s, other), vercmp.Compare(plain, other); got != want {
						t.Fatalf("Compare(%q, %q): %d, as %q: %d", s, other, got, plain, want)
					}
				}
			}
		}
	}
}

// P2.5: between parts of different kinds a separator is needed by none.
func TestNoSeparator(t *testing.T) {
	for _, c := range [][2]string{{"1a", "1.a"}, {"a1", "a.1"}, {"1~", "1.~"}, {"~1", "~.1"}, {"a^", "a.^"}, {"^a", "^.a"}, {"~^", "~.^"}, {"~~", "~.~"}, {"^^", "^.^"}} {
		wantCompare(t, c[0], c[1], 0)
	}
	for _, c := range [][2]string{{"1.1", "11"}, {"a.a", "aa"}} { // of the same kind it is
		wantCompare(t, c[0], c[1], -1)
	}
}

// P2.6: a common prefix, and a dot, change nothing.
func TestCommonPrefix(t *testing.T) {
	all := append(texts("~^aB01.", 2), "1.10", "1.9", "rc1", "100")
	prefixes := []string{"", "0", "1", "12", "a", "~", "^", "1~", "1^", "1.2.3", "1a", "00", "..", "\xff", strings.Repeat("9", 50)}
	for _, a := range all {
		for _, b := range all {
			want := vercmp.Compare(a, b)
			for _, p := range prefixes {
				if got := vercmp.Compare(p+"."+a, p+"."+b); got != want {
					t.Fatalf("Compare(%q, %q) behind %q: %d, alone %d", a, b, p, got, want)
				}
			}
		}
	}
}

// The reference is one itself only if it agrees with the chapter's examples.
func TestExpected(t *testing.T) {
	row := []string{"1~rc", "1", "1^post", "1.a", "1.0"}
	if !slices.IsSortedFunc(row, expected) || expected("1.0", "01.00") != 0 || expected("9", "10") != -1 || expected("1.0a", "1.0") != 1 {
		t.Error("the reference is wrong")
	}
}
