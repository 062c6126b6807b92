package wire

import "chandlery/api"

// fault is what a reader panics with: an error, and the place of the wrong item. Its zero value is none.
type fault struct {
	place int
	e     api.Errno
}

// caught is the fault that was raised by the panic with p. A panic that is not the reader's own goes on, lest a mistake in the program pass for wrong bytes.
func caught(p any) fault {
	f, own := p.(fault)
	if p != nil && !own {
		panic(p)
	}
	return f
}

// Reader goes over bytes.
type Reader struct {
	data  []byte
	at    int
	wrong fault
}

// NewReader is a reader at the first byte.
func NewReader(s string) (*Reader, api.Errno) {
	if len(s) > api.MaxBytes {
		return nil, api.ErrTooLarge
	}
	return &Reader{data: []byte(s)}, api.OK
}

// record keeps a fault, if there is one, and goes back to its place.
func (r *Reader) record(f fault) {
	if f.e != api.OK {
		r.wrong, r.at = f, f.place
	}
}

// demandSound raises an earlier fault again, so that the first one persists.
func (r *Reader) demandSound() {
	if r.wrong.e != api.OK {
		panic(r.wrong)
	}
}

// number reads the number that stands at the place; a fault is raised.
func (r *Reader) number(least, most int) int {
	start, n := r.at, 0
	for i := range maxBytes {
		if r.at == len(r.data) {
			panic(fault{start, api.ErrShort})
		}
		b := r.data[r.at]
		r.at++
		n |= int(b%more) << (i * sevenBits)
		if b >= more {
			continue
		}
		if b == 0 && i > 0 {
			panic(fault{start, api.ErrWide})
		}
		if n < least || n > most {
			panic(fault{start, api.ErrRange})
		}
		return n
	}
	panic(fault{start, api.ErrRange})
}

// text reads the text that stands at the place; a fault is raised.
func (r *Reader) text(most int) string {
	n := r.number(0, most)
	if n > len(r.data)-r.at {
		panic(fault{r.at, api.ErrShort})
	}
	start := r.at
	r.at += n
	return string(r.data[start:r.at])
}

// Num is the number that stands there.
func (r *Reader) Num(least, most int) int {
	if r == nil {
		return 0
	}
	defer func() { r.record(caught(recover())) }()
	r.demandSound()
	return r.number(least, most)
}

// Text is the text that stands there.
func (r *Reader) Text(most int) string {
	if r == nil {
		return ""
	}
	defer func() { r.record(caught(recover())) }()
	r.demandSound()
	return r.text(most)
}

// At is its place.
func (r *Reader) At() int {
	if r == nil {
		return 0
	}
	return r.at
}

// End says whether nothing is left. That bytes are left is an error like any other: it is recorded, lest the reader be taken for sound after it.
func (r *Reader) End() (e api.Errno) {
	if r == nil {
		return api.ErrNil
	}
	defer func() {
		f := caught(recover())
		r.record(f)
		e = f.e
	}()
	r.demandSound()
	if r.at < len(r.data) {
		panic(fault{r.at, api.ErrLong})
	}
	return api.OK
}

// Fail goes back to a place, where something is wrong.
func (r *Reader) Fail(place int, e api.Errno) (told api.Errno) {
	if r == nil {
		return api.ErrNil
	}
	defer func() {
		if f := caught(recover()); f.e != api.OK {
			told = f.e
		}
	}()
	r.demandSound()
	if place < 0 || place > r.at || e == api.OK {
		panic(fault{r.at, api.ErrArg})
	}
	r.record(fault{place, e})
	return e
}

// Wrong is what was wrong, and where.
func (r *Reader) Wrong() (place int, e api.Errno) {
	if r == nil {
		return 0, api.ErrNil
	}
	return r.wrong.place, r.wrong.e
}
