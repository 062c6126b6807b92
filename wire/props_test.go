package wire_test

import (
	"math"
	"strings"
	"testing"

	"chandlery/api"
	"chandlery/wire"
)

// dice is a row of numbers that is the same each time.
type dice uint64

// roll is the next number, from 0 to n-1.
func (d *dice) roll(n int) int {
	*d = *d*6364136223846793005 + 1442695040888963407
	return int(uint64(*d)>>33) % n
}

// any is a number of any size.
func (d *dice) any() int {
	high, low := d.roll(1<<31), d.roll(1<<31)
	return (high<<32 ^ low) >> d.roll(62)
}

// text is a text of any bytes.
func (d *dice) text() string {
	b := make([]byte, d.roll(200))
	for i := range b {
		b[i] = byte(d.roll(256))
	}
	return string(b)
}

// pick is a text of so many bytes of the alphabet.
func (d *dice) pick(alphabet string, size int) string {
	b := make([]byte, size)
	for i := range b {
		b[i] = alphabet[d.roll(len(alphabet))]
	}
	return string(b)
}

// eachText calls f with all texts of up to so many bytes of the alphabet.
func eachText(alphabet string, most int, f func(string)) {
	f("")
	for _, b := range []byte(alphabet) {
		if most > 0 {
			eachText(alphabet, most-1, func(s string) { f(string(b) + s) })
		}
	}
}

// P1.3: what was written is read back, then nothing is left.
func TestReadBack(t *testing.T) {
	d := dice(1)
	for range 200 {
		var nums []int
		var texts []string
		w := wire.NewWriter()
		for range d.roll(30) {
			n, s := d.any(), d.text()
			nums, texts = append(nums, n), append(texts, s)
			if w.Num(n) != api.OK || w.Text(s) != api.OK {
				t.Fatal("not written:", n, len(s))
			}
		}
		r := reader(t, w.Bytes())
		for i, n := range nums {
			if got := r.Num(n, n); got != n {
				t.Fatal("Num:", got, n)
			}
			if got := r.Text(len(texts[i])); got != texts[i] {
				t.Fatalf("Text: %q, %q", got, texts[i])
			}
		}
		if r.End() != api.OK || r.At() != len(w.Bytes()) {
			t.Fatal("something is left, at", r.At())
		}
	}
}

// P1.4, P1.6: each number that is read is within its bounds, and is written as it was.
func TestNumUnique(t *testing.T) {
	eachText("\x00\x01\x02\x7f\x80\x81\xff", 5, func(s string) {
		for _, least := range []int{0, 2, 129} {
			for _, most := range []int{1, 127, 300, math.MaxInt} {
				r := reader(t, s)
				n := r.Num(least, most)
				if _, e := r.Wrong(); e != api.OK {
					if n != 0 || r.At() != 0 {
						t.Fatalf("% x: %v, and %d at %d", s, e, n, r.At())
					}
					continue
				}
				if n < least || n > most {
					t.Fatalf("% x: %d is out of its bounds", s, n)
				}
				if w := written(t, n); w != s[:r.At()] {
					t.Fatalf("% x: %d, written % x", s, n, w)
				}
			}
		}
	})
}

// P1.4, P1.6: each text that is read is no longer than it may be, and is written as it was.
func TestTextUnique(t *testing.T) {
	eachText("\x00\x01\x02\x03\x80\xff", 5, func(s string) {
		for most := range 4 {
			r := reader(t, s)
			got := r.Text(most)
			if _, e := r.Wrong(); e != api.OK {
				if got != "" {
					t.Fatalf("% x: %v, and % x", s, e, got)
				}
				continue
			}
			w := wire.NewWriter()
			w.Text(got)
			if len(got) > most || w.Bytes() != s[:r.At()] {
				t.Fatalf("% x: % x, written % x", s, got, w.Bytes())
			}
		}
	})
}

// P1.4: two numbers never have the same bytes, and none's bytes begin another's.
func TestNumBytesDiffer(t *testing.T) {
	seen := map[string]int{}
	for n := range 1 << 15 {
		s := written(t, n)
		if m, ok := seen[s]; ok {
			t.Fatal("the same bytes:", m, n)
		}
		seen[s] = n
		for i := range len(s) {
			if m, ok := seen[s[:i]]; ok {
				t.Fatal("the bytes of one begin those of another:", m, n)
			}
		}
	}
}

// step does one thing with a reader, and says whether it was a Fail that was recorded.
func step(d *dice, r *wire.Reader) (failed bool) {
	switch d.roll(8) {
	case 0:
		e := api.Errno(d.roll(3))
		return r.Fail(d.roll(8)-1, e) == e && e != api.OK
	case 1:
		r.End()
	case 2, 3, 4:
		r.Text(d.roll(6))
	default:
		r.Num(d.roll(2), d.roll(400))
	}
	return false
}

// P1.5: places do not decrease but by Fail, are never outside the bytes; an error persists, and its place.
func TestPlaces(t *testing.T) {
	d := dice(2)
	for range 20000 {
		s := d.pick("\x00\x01\x02\x03\x05\x7f\x80\x81\xff", d.roll(12))
		r := reader(t, s)
		for range 12 {
			at := r.At()
			place, e := r.Wrong()
			failed := step(&d, r)
			newAt := r.At()
			newPlace, newE := r.Wrong()
			if newAt < at && !failed || newAt < 0 || newAt > len(s) {
				t.Fatalf("% x: from %d to %d", s, at, newAt)
			}
			if e != api.OK && (newE != e || newPlace != place || newAt != place) {
				t.Fatalf("% x: %v at %d, then %v at %d", s, e, place, newE, newPlace)
			}
		}
	}
}

// P1.5: wherever End stands among the items, the error that it answers is the reader's own, and persists.
func TestEndIsRecorded(t *testing.T) {
	eachText("\x00\x01\x02\x80", 5, func(s string) {
		for items := range 4 {
			r := reader(t, s)
			for i := range items {
				if i%2 == 0 {
					r.Num(0, 9)
				} else {
					r.Text(9)
				}
			}
			at, e := r.At(), r.End()
			if e == api.OK && at != len(s) {
				t.Fatalf("% x: nothing is left at %d", s, at)
			}
			for range 2 {
				wantAt(t, r, at, e)
				if again := r.End(); again != e {
					t.Fatalf("% x: %v, then %v", s, e, again)
				}
			}
			if n, text := r.Num(0, 9), r.Text(9); n != 0 || text != "" {
				t.Fatalf("% x: read after End: %d, %q", s, n, text)
			}
		}
	})
}

// P1.6: whatever the bytes, a number has at most nine of them.
func TestNumLongest(t *testing.T) {
	for size := range 20 {
		for _, last := range []string{"\x01", "\x7f"} {
			r := reader(t, strings.Repeat("\xff", size)+last)
			r.Num(0, math.MaxInt)
			if size < 9 {
				wantAt(t, r, size+1, api.OK)
			} else {
				wantAt(t, r, 0, api.ErrRange)
			}
		}
	}
}
