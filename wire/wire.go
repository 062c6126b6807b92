// Package wire is layer 1: numbers and texts as bytes; see shared/doc/01-wire.md.
package wire

import "chandlery/api"

const (
	sevenBits = 7
	more      = 1 << sevenBits // added to each byte of a number but the last
	maxBytes  = 9              // of a number
)

// numSize is how many bytes a number is written in.
func numSize(n int) int {
	size := 1
	for n >= more {
		n >>= sevenBits
		size++
	}
	return size
}

// Writer has bytes.
type Writer struct {
	data []byte
}

// NewWriter is a writer without bytes.
func NewWriter() *Writer { return &Writer{} }

// fits says whether so many further bytes may be written.
func (w *Writer) fits(size int) bool { return size <= api.MaxBytes-len(w.data) }

func (w *Writer) putNum(n int) {
	for n >= more {
		w.data = append(w.data, byte(n%more+more))
		n >>= sevenBits
	}
	w.data = append(w.data, byte(n))
}

// Num writes a number.
func (w *Writer) Num(n int) api.Errno {
	switch {
	case w == nil:
		return api.ErrNil
	case n < 0:
		return api.ErrArg
	case !w.fits(numSize(n)):
		return api.ErrTooLarge
	}
	w.putNum(n)
	return api.OK
}

// Text writes a text.
func (w *Writer) Text(s string) api.Errno {
	switch {
	case w == nil:
		return api.ErrNil
	case !w.fits(numSize(len(s)) + len(s)):
		return api.ErrTooLarge
	}
	w.putNum(len(s))
	w.data = append(w.data, s...)
	return api.OK
}

// Bytes are what was written.
func (w *Writer) Bytes() string {
	if w == nil {
		return ""
	}
	return string(w.data)
}
