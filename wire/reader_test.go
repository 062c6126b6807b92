package wire_test

import (
	"math"
	"strings"
	"testing"

	"chandlery/api"
	"chandlery/wire"
)

// reader is one at the first byte of s.
func reader(t *testing.T, s string) *wire.Reader {
	t.Helper()
	r, e := wire.NewReader(s)
	if e != api.OK || r == nil {
		t.Fatalf("NewReader of %d bytes: %v", len(s), e)
	}
	return r
}

// wantAt checks a reader's place and error; an error is at that place.
func wantAt(t *testing.T, r *wire.Reader, at int, want api.Errno) {
	t.Helper()
	if got := r.At(); got != at {
		t.Errorf("At: %d, want %d", got, at)
	}
	place, e := r.Wrong()
	if e != want || e != api.OK && place != at || e == api.OK && place != 0 {
		t.Errorf("Wrong: %d, %v, want %v at %d", place, e, want, at)
	}
}

// P1.2: the chapter's example, item by item.
func TestReadExample(t *testing.T) {
	r := reader(t, "\xac\x02\x02ab")
	wantAt(t, r, 0, api.OK)
	if n := r.Num(0, 300); n != 300 {
		t.Error("Num:", n)
	}
	wantAt(t, r, 2, api.OK)
	if s := r.Text(2); s != "ab" {
		t.Error("Text:", s)
	}
	wantAt(t, r, 5, api.OK)
	if e := r.End(); e != api.OK {
		t.Error("End:", e)
	}
}

// P1.2, P1.6: numbers, their bounds, and what is wrong with them, in its order.
func TestReadNum(t *testing.T) {
	eight := strings.Repeat("\x80", 8)
	for _, c := range []struct {
		s           string
		least, most int
		n, at       int
		e           api.Errno
	}{
		{"\x00", 0, 0, 0, 1, api.OK},
		{"\x7f", 0, 127, 127, 1, api.OK},
		{"\x80\x01", 0, 128, 128, 2, api.OK},
		{"\xac\x02\xff", 300, 300, 300, 2, api.OK},
		{"\x05", -9, 5, 5, 1, api.OK},
		{"\xff\xff\xff\xff\xff\xff\xff\xff\x7f", 0, math.MaxInt, math.MaxInt, 9, api.OK},
		{eight + "\x01", 0, math.MaxInt, 1 << 56, 9, api.OK},
		{"", 0, 9, 0, 0, api.ErrShort},
		{"\x80", 0, 9, 0, 0, api.ErrShort},
		{eight, 0, 9, 0, 0, api.ErrShort},
		{"\x80\x00", 0, 9, 0, 0, api.ErrWide},
		{"\xff\x00", 0, 9, 0, 0, api.ErrWide},
		{"\x80\x80\x00", 1, 0, 0, 0, api.ErrWide},
		{eight + "\x00", 0, 9, 0, 0, api.ErrWide},
		{eight + "\x80", 0, math.MaxInt, 0, 0, api.ErrRange},
		{eight + "\x80\x00", 0, math.MaxInt, 0, 0, api.ErrRange},
		{eight + "\xff\x01", 0, math.MaxInt, 0, 0, api.ErrRange},
		{"\x05", 0, 4, 0, 0, api.ErrRange},
		{"\x05", 6, 9, 0, 0, api.ErrRange},
		{"\x05", 6, 4, 0, 0, api.ErrRange},
		{"\x00", math.MinInt, -1, 0, 0, api.ErrRange},
	} {
		r := reader(t, c.s)
		if n := r.Num(c.least, c.most); n != c.n {
			t.Errorf("% x: %d, want %d", c.s, n, c.n)
		}
		wantAt(t, r, c.at, c.e)
	}
}

// P1.2, P1.6: texts, the most of their bytes, and the two places of an error.
func TestReadText(t *testing.T) {
	for _, c := range []struct {
		s    string
		most int
		want string
		at   int
		e    api.Errno
	}{
		{"\x00", 0, "", 1, api.OK},
		{"\x02ab", 2, "ab", 3, api.OK},
		{"\x02abc", 9, "ab", 3, api.OK},
		{"\x03\x00\xff\x80", 3, "\x00\xff\x80", 4, api.OK},
		{"\xc8\x01" + strings.Repeat("x", 200), 200, strings.Repeat("x", 200), 202, api.OK},
		{"", 9, "", 0, api.ErrShort},
		{"\x80", 9, "", 0, api.ErrShort},
		{"\x82\x00ab", 9, "", 0, api.ErrWide},
		{"\x02ab", 1, "", 0, api.ErrRange},
		{"\x03a", 2, "", 0, api.ErrRange},
		{"\x00", -1, "", 0, api.ErrRange},
		{"\x03a", 3, "", 1, api.ErrShort},
		{"\x01", 3, "", 1, api.ErrShort},
		{"\x80\x01a", 128, "", 2, api.ErrShort},
		{"\xff\xff\xff\xff\xff\xff\xff\xff\x7f", math.MaxInt, "", 9, api.ErrShort},
		{"\xff\xff\xff\xff\xff\xff\xff\xff\xff\x01", math.MaxInt, "", 0, api.ErrRange},
	} {
		r := reader(t, c.s)
		if s := r.Text(c.most); s != c.want {
			t.Errorf("% x: % x, want % x", c.s, s, c.want)
		}
		wantAt(t, r, c.at, c.e)
	}
}

// P1.2: an error after items that were right stands at its own item.
func TestErrorPlaceAfterItems(t *testing.T) {
	r := reader(t, "\x01\x02ab\x80\x00")
	r.Num(0, 9)
	r.Text(9)
	if n := r.Num(0, 9); n != 0 {
		t.Error("Num:", n)
	}
	wantAt(t, r, 4, api.ErrWide)
	r = reader(t, "\x01\x04ab")
	r.Num(0, 9)
	r.Text(9)
	wantAt(t, r, 2, api.ErrShort)
}

// P1.5: the first error stays, with its place; nothing is read any more.
func TestErrorPersists(t *testing.T) {
	r := reader(t, "\x05\x05\x01a")
	r.Num(0, 9)
	r.Num(0, 4)
	for range 2 {
		if n := r.Num(0, 9); n != 0 {
			t.Error("Num:", n)
		}
		if s := r.Text(9); s != "" {
			t.Error("Text:", s)
		}
		if e := r.End(); e != api.ErrRange {
			t.Error("End:", e)
		}
		for _, c := range []struct {
			place int
			e     api.Errno
		}{{0, api.ErrForm}, {1, api.ErrForm}, {-1, api.ErrForm}, {0, api.OK}} {
			if e := r.Fail(c.place, c.e); e != api.ErrRange {
				t.Errorf("Fail(%d, %v): %v", c.place, c.e, e)
			}
		}
		wantAt(t, r, 1, api.ErrRange)
	}
}

// P1.2: End of a reader that has read everything, and of one with an error.
func TestEnd(t *testing.T) {
	r := reader(t, "")
	for range 2 {
		if e := r.End(); e != api.OK {
			t.Error("of no bytes:", e)
		}
		wantAt(t, r, 0, api.OK)
	}
	r.Num(0, 9)
	if e := r.End(); e != api.ErrShort {
		t.Error("after an error:", e)
	}
	wantAt(t, r, 0, api.ErrShort)
	r = reader(t, "\x05\x01a")
	r.Num(0, 9)
	r.Text(9)
	for range 2 {
		if e := r.End(); e != api.OK {
			t.Error("at the end:", e)
		}
		wantAt(t, r, 3, api.OK)
	}
}

// P1.2, P1.5: that bytes are left persists, at the first of them, wherever End was called.
func TestEndPersists(t *testing.T) {
	for items := range 3 {
		r := reader(t, "\x05\x06\x01a")
		for i := range items {
			if n := r.Num(0, 9); n != 5+i {
				t.Error("Num before End:", n)
			}
		}
		for range 2 {
			if e := r.End(); e != api.ErrLong {
				t.Errorf("End at %d: %v", items, e)
			}
			wantAt(t, r, items, api.ErrLong)
			if n, s := r.Num(0, 9), r.Text(9); n != 0 || s != "" {
				t.Errorf("read after End at %d: %d, %q", items, n, s)
			}
			for place := -1; place <= 1; place++ {
				if e := r.Fail(place, api.ErrForm); e != api.ErrLong {
					t.Errorf("Fail(%d) after End at %d: %v", place, items, e)
				}
			}
			wantAt(t, r, items, api.ErrLong)
		}
	}
}

// P1.2, P1.5: after a Fail that was refused, End still finds what is left; after one that was not, End answers its error.
func TestEndAfterFail(t *testing.T) {
	r := reader(t, "\x05\x06")
	r.Num(0, 9)
	r.Fail(2, api.ErrForm)
	if e := r.End(); e != api.ErrLong {
		t.Error("after a Fail that was refused:", e)
	}
	wantAt(t, r, 1, api.ErrLong)
	r = reader(t, "\x05\x06")
	r.Num(0, 9)
	r.Fail(0, api.ErrForm)
	if e := r.End(); e != api.ErrForm {
		t.Error("after Fail:", e)
	}
	wantAt(t, r, 0, api.ErrForm)
}

// P1.2, P1.5: Fail records any error at any place up to the reader's own, and goes back there.
func TestFail(t *testing.T) {
	for _, c := range []struct {
		place int
		e     api.Errno
		want  api.Errno
		at    int
	}{
		{3, api.ErrForm, api.ErrForm, 3},
		{2, api.ErrDeep, api.ErrDeep, 2},
		{0, api.ErrForm, api.ErrForm, 0},
		{1, api.Errno(999), api.Errno(999), 1},
		{1, api.Errno(-7), api.Errno(-7), 1},
		{4, api.ErrForm, api.ErrArg, 3},
		{math.MaxInt, api.ErrForm, api.ErrArg, 3},
		{-1, api.ErrForm, api.ErrArg, 3},
		{math.MinInt, api.ErrForm, api.ErrArg, 3},
		{2, api.OK, api.ErrArg, 3},
	} {
		r := reader(t, "\x02ab\x04\x05")
		r.Text(9)
		if e := r.Fail(c.place, c.e); e != c.want {
			t.Errorf("Fail(%d, %v): %v, want %v", c.place, c.e, e, c.want)
		}
		if c.want == api.ErrArg {
			wantAt(t, r, c.at, api.OK)
			if n := r.Num(0, 9); n != 4 {
				t.Error("a Fail that was refused, then Num:", n)
			}
			continue
		}
		wantAt(t, r, c.at, c.want)
		if n, e := r.Num(0, 9), r.End(); n != 0 || e != c.want {
			t.Error("after Fail:", n, e)
		}
	}
}

// P1.2: as many bytes as may be, and one more.
func TestNewReaderLimit(t *testing.T) {
	r := reader(t, strings.Repeat("\x07", api.MaxBytes))
	if n := r.Num(0, 9); n != 7 {
		t.Error("Num:", n)
	}
	r, e := wire.NewReader(strings.Repeat("\x07", api.MaxBytes+1))
	if r != nil || e != api.ErrTooLarge {
		t.Error("one more:", r, e)
	}
}

// P1.2, R1: of nil nothing.
func TestNilReader(t *testing.T) {
	var r *wire.Reader
	if n := r.Num(1, 9); n != 0 {
		t.Error("Num:", n)
	}
	if s := r.Text(9); s != "" {
		t.Error("Text:", s)
	}
	if at := r.At(); at != 0 {
		t.Error("At:", at)
	}
	if e := r.End(); e != api.ErrNil {
		t.Error("End:", e)
	}
	if e := r.Fail(-1, api.OK); e != api.ErrNil {
		t.Error("Fail:", e)
	}
	if place, e := r.Wrong(); place != 0 || e != api.ErrNil {
		t.Error("Wrong:", place, e)
	}
}
