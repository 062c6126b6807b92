package wire_test

import (
	"math"
	"strings"
	"testing"

	"chandlery/api"
	"chandlery/wire"
)

// written is what a new writer has after one number.
func written(t *testing.T, n int) string {
	t.Helper()
	w := wire.NewWriter()
	if e := w.Num(n); e != api.OK {
		t.Fatalf("Num(%d): %v", n, e)
	}
	return w.Bytes()
}

// P1.1, P1.6: the bytes of numbers, at each edge between two sizes.
func TestNumBytes(t *testing.T) {
	for _, c := range []struct {
		n    int
		want string
	}{
		{0, "\x00"},
		{1, "\x01"},
		{127, "\x7f"},
		{128, "\x80\x01"},
		{300, "\xac\x02"},
		{1<<14 - 1, "\xff\x7f"},
		{1 << 14, "\x80\x80\x01"},
		{api.MaxEpoch, "\xff\xff\xff\xff\x07"},
		{math.MaxInt, "\xff\xff\xff\xff\xff\xff\xff\xff\x7f"},
	} {
		if got := written(t, c.n); got != c.want {
			t.Errorf("Num(%d): % x, want % x", c.n, got, c.want)
		}
	}
}

// P1.6: a number has 1 to 9 bytes, as many as its groups of seven bits.
func TestNumSizes(t *testing.T) {
	for size := 1; size <= 9; size++ {
		least, most := 1<<(7*(size-1)), 1<<(7*size-1)
		most += most - 1
		for _, n := range []int{least, most} {
			if got := len(written(t, n)); got != size {
				t.Errorf("Num(%d): %d bytes, want %d", n, got, size)
			}
		}
	}
}

// P1.1: items are appended one after another, the example's among them.
func TestWriterAppends(t *testing.T) {
	w := wire.NewWriter()
	if s := w.Bytes(); s != "" {
		t.Errorf("a new writer: % x", s)
	}
	w.Num(300)
	early := w.Bytes()
	w.Text("ab")
	if s := w.Bytes(); s != "\xac\x02\x02ab" {
		t.Errorf("300, ab: % x", s)
	}
	w.Text("")
	w.Text("\x00\xff\x80")
	if s := w.Bytes(); s != "\xac\x02\x02ab\x00\x03\x00\xff\x80" {
		t.Errorf("further texts: % x", s)
	}
	if early != "\xac\x02" {
		t.Errorf("what was given out before has changed: % x", early)
	}
	long := strings.Repeat("x", 200)
	w = wire.NewWriter()
	w.Text(long)
	if s := w.Bytes(); s != "\xc8\x01"+long {
		t.Errorf("a text of 200 bytes: % x", s)
	}
}

// P1.1: wrong numbers are refused, and leave no bytes; later ones are written.
func TestNumBelowZero(t *testing.T) {
	w := wire.NewWriter()
	w.Num(5)
	for _, n := range []int{-1, -128, math.MinInt} {
		if e := w.Num(n); e != api.ErrArg {
			t.Errorf("Num(%d): %v", n, e)
		}
	}
	w.Num(6)
	if s := w.Bytes(); s != "\x05\x06" {
		t.Errorf("bytes: % x", s)
	}
}

// filled is a writer in which so many bytes are free.
func filled(t *testing.T, free int) *wire.Writer {
	t.Helper()
	w := wire.NewWriter()
	if e := w.Text(strings.Repeat("x", api.MaxBytes-4-free)); e != api.OK {
		t.Fatal("Text:", e)
	}
	if n := len(w.Bytes()); n != api.MaxBytes-free {
		t.Fatal("bytes:", n)
	}
	return w
}

// P1.1: an item that does not fit is not written at all, a smaller one still is.
func TestWriterFull(t *testing.T) {
	for _, c := range []struct {
		free int
		put  func(*wire.Writer) api.Errno
		want api.Errno
		left int
	}{
		{0, func(w *wire.Writer) api.Errno { return w.Num(0) }, api.ErrTooLarge, 0},
		{0, func(w *wire.Writer) api.Errno { return w.Num(-1) }, api.ErrArg, 0},
		{0, func(w *wire.Writer) api.Errno { return w.Text("") }, api.ErrTooLarge, 0},
		{1, func(w *wire.Writer) api.Errno { return w.Num(128) }, api.ErrTooLarge, 1},
		{1, func(w *wire.Writer) api.Errno { return w.Num(127) }, api.OK, 0},
		{1, func(w *wire.Writer) api.Errno { return w.Text("") }, api.OK, 0},
		{2, func(w *wire.Writer) api.Errno { return w.Text("ab") }, api.ErrTooLarge, 2},
		{2, func(w *wire.Writer) api.Errno { return w.Text("a") }, api.OK, 0},
		{8, func(w *wire.Writer) api.Errno { return w.Num(math.MaxInt) }, api.ErrTooLarge, 8},
		{9, func(w *wire.Writer) api.Errno { return w.Num(math.MaxInt) }, api.OK, 0},
		{129, func(w *wire.Writer) api.Errno { return w.Text(strings.Repeat("y", 128)) }, api.ErrTooLarge, 129},
		{130, func(w *wire.Writer) api.Errno { return w.Text(strings.Repeat("y", 128)) }, api.OK, 0},
	} {
		w := filled(t, c.free)
		before := w.Bytes()
		if e := c.put(w); e != c.want {
			t.Errorf("%d free: %v, want %v", c.free, e, c.want)
		}
		after := w.Bytes()
		if len(after) != api.MaxBytes-c.left || !strings.HasPrefix(after, before) {
			t.Errorf("%d free: %d bytes are left, want %d", c.free, api.MaxBytes-len(after), c.left)
		}
	}
	w := filled(t, 1)
	w.Text("ab")
	if e := w.Num(7); e != api.OK || !strings.HasSuffix(w.Bytes(), "x\x07") {
		t.Error("a smaller item after one that did not fit:", e)
	}
}

// P1.1: a text longer than all that may be written.
func TestTextTooLong(t *testing.T) {
	w := wire.NewWriter()
	if e := w.Text(strings.Repeat("x", api.MaxBytes)); e != api.ErrTooLarge || w.Bytes() != "" {
		t.Error("Text:", e, len(w.Bytes()))
	}
}

// P1.1, R1: of nil nothing.
func TestNilWriter(t *testing.T) {
	var w *wire.Writer
	for _, n := range []int{3, -1} {
		if e := w.Num(n); e != api.ErrNil {
			t.Errorf("Num(%d): %v", n, e)
		}
	}
	for _, s := range []string{"", "a", strings.Repeat("x", api.MaxBytes+1)} {
		if e := w.Text(s); e != api.ErrNil {
			t.Errorf("Text of %d bytes: %v", len(s), e)
		}
	}
	if s := w.Bytes(); s != "" {
		t.Errorf("Bytes: % x", s)
	}
}
