package codec_test

import (
	"slices"
	"strings"
	"testing"

	"chandlery/api"
	"chandlery/codec"
)

// wantCut asks for each proper prefix of the bytes of data to be refused: at its end, where the text begins whose bytes are missing, or where the number does.
func wantCut(t *testing.T, d codec.Data) {
	t.Helper()
	items := itemsBy(d)
	s := joined(items)
	for _, i := range items {
		for end := i.place; end < i.end(); end++ {
			place := i.place
			if i.text && end > i.place {
				place = i.first()
			}
			wantFault(t, i.name+" cut off", s[:end], place, api.ErrShort)
		}
	}
}

// P11.4: each proper prefix of the bytes of data is refused.
func TestPrefixes(t *testing.T) {
	t.Parallel()
	for _, d := range small()[:5] {
		wantCut(t, d)
	}
	wantCut(t, codec.Data{Repos: repos(16), Installed: several(200)})
	var die dice
	for range 30 {
		wantCut(t, die.data())
	}
	p := full()
	p.Files, p.Provides, p.Obsoletes = p.Files[:2], p.Provides[:1], nil
	for _, list := range richLists {
		*list.of(&p) = nil
	}
	p.Requires = []api.Rich{deep(api.MaxNest, true), deep(api.MaxNest, false)}
	wantCut(t, codec.Data{Installed: []api.Package{p}})
}

// P11.4: the bytes of data followed by more are refused, whatever that is.
func TestMoreBytes(t *testing.T) {
	check := func(d codec.Data) {
		t.Helper()
		s := bytesBy(d)
		for c := range 256 {
			wantFault(t, "a byte more", s+string([]byte{byte(c)}), len(s), api.ErrLong)
		}
		for _, more := range []string{"\x00\x00", s, "\x80\x00", strings.Repeat("\xff", 20), strings.Repeat("\x00", 1000), longest} {
			wantFault(t, "more bytes", s+more, len(s), api.ErrLong)
		}
	}
	for _, d := range small()[:5] {
		check(d)
	}
	check(codec.Data{Repos: repos(16), Installed: several(256)})
	var die dice
	for range 50 {
		check(die.data())
	}
	s := bytesBy(mixed())
	wantFault(t, "as many bytes more as there may be", s+strings.Repeat("\x00", api.MaxBytes-len(s)), len(s), api.ErrLong)
}

// P11.3: all texts of up to three bytes, and all of up to six bytes of a few.
func TestFewBytes(t *testing.T) {
	t.Parallel()
	n := map[api.Errno]int{}
	var each func(alphabet []byte, most int, s string)
	each = func(alphabet []byte, most int, s string) {
		n[wantDecode(t, "few bytes", s)]++
		if most == 0 {
			return
		}
		for _, c := range alphabet {
			each(alphabet, most-1, s+string([]byte{c}))
		}
	}
	var all []byte
	for c := range 256 {
		all = append(all, byte(c))
	}
	each(all, 2, "")
	each([]byte{0, 1, 2, 16, 17, 0x80, 0x88, 0xff}, 5, "")
	for _, e := range []api.Errno{api.OK, api.ErrShort, api.ErrLong, api.ErrWide, api.ErrRange} {
		if n[e] == 0 {
			t.Errorf("%d: never", e)
		}
	}
}

// change is a text that is s but for a few bytes.
func (d *dice) change(s string) string {
	at := d.roll(len(s) + 1)
	end := min(len(s), at+1+d.roll(1+d.roll(4)))
	some := string([]byte{byte(pick(d, 0, 1, 2, 3, 4, 7, 8, 33, 65, 128, 255, d.roll(256)))})
	switch d.roll(6) {
	case 0:
		return s[:at]
	case 1:
		return s[:at] + s[end:]
	case 2:
		return s[:at] + some + s[at:]
	case 3:
		return s[:end] + s[at:]
	case 4:
		return s + some
	}
	return s[:at] + some + s[end:]
}

// P11.2, P11.3: changed, cut off and lengthened bytes, held against what is found by other means: what is decoded is valid, and its bytes are these.
func TestChangedBytes(t *testing.T) {
	t.Parallel()
	var die dice
	n := map[api.Errno]int{}
	for range 1500 {
		s := bytesBy(die.data())
		for range 10 {
			n[wantDecode(t, "changed", die.change(s))]++
			n[wantDecode(t, "changed twice", die.change(die.change(s)))]++
		}
	}
	for _, e := range []api.Errno{api.OK, api.ErrShort, api.ErrLong, api.ErrWide, api.ErrRange, api.ErrForm} {
		if n[e] < 200 {
			t.Errorf("%d: %d times: too few", e, n[e])
		}
	}
}

// P11.2, P11.3: changed items: numbers in and out of range, texts that may be and texts that may not, items that are left out, twice there, or in another order.
func TestChangedItems(t *testing.T) {
	t.Parallel()
	var die dice
	n := map[api.Errno]int{}
	texts := []string{"", "a", "/a", "and", "a b", "1", "1-1", longest, longest[1:] + "/", "\xff"}
	for range 1500 {
		items := itemsBy(die.data())
		for range 8 {
			i := die.roll(len(items))
			other := slices.Clone(items)
			switch {
			case die.roll(6) == 0:
				other = slices.Delete(other, i, i+1)
			case die.roll(6) == 0:
				other = slices.Insert(other, i, items[die.roll(len(items))])
			case die.roll(6) == 0:
				other[i] = items[die.roll(len(items))]
			case items[i].text:
				other[i].bytes = textBy(pick(&die, texts...))
			default:
				other[i].bytes = numBy(max(0, pick(&die, varied(items[i].least, items[i].most)...)))
			}
			n[wantDecode(t, "changed", joined(other))]++
		}
	}
	for _, e := range []api.Errno{api.OK, api.ErrShort, api.ErrLong, api.ErrRange, api.ErrForm} {
		if n[e] < 200 {
			t.Errorf("%d: %d times: too few", e, n[e])
		}
	}
}

// P11.2, P11.3: a package of any parts, so that many are nested too deeply, and many are invalid.
func TestAnyParts(t *testing.T) {
	t.Parallel()
	var die dice
	n := map[api.Errno]int{}
	var grow func(depth int) api.Rich
	grow = func(depth int) api.Rich {
		if depth == 0 {
			return api.Rich{Kind: api.Atom, Dep: die.dep()}
		}
		r := of(uint8(2+die.roll(6)), grow(depth-1))
		for range 1 + die.roll(1+die.roll(3)) {
			r.Args = append(r.Args, grow(die.roll(1+die.roll(depth))))
		}
		return r
	}
	for range 5000 {
		p := called("b")
		list := pick(&die, richLists...)
		*list.of(&p) = append(*list.of(&p), grow(die.roll(3)), grow(die.roll(12)))
		n[wantDecode(t, list.name, bytesBy(codec.Data{Installed: []api.Package{p}}))]++
	}
	for _, e := range []api.Errno{api.OK, api.ErrDeep, api.ErrForm} {
		if n[e] < 200 {
			t.Errorf("%d: %d times: too few", e, n[e])
		}
	}
}

// P11.3: any bytes.
func TestAnyBytes(t *testing.T) {
	t.Parallel()
	var die dice
	n := map[api.Errno]int{}
	for range 100000 {
		b := make([]byte, die.roll(60))
		for i := range b {
			b[i] = byte(pick(&die, 0, 0, 1, 1, 2, 3, die.roll(8), 'a', '1', die.roll(256)))
		}
		n[wantDecode(t, "any", string(b))]++
	}
	if n[api.ErrShort] < 1000 || n[api.ErrLong] < 1000 || n[api.ErrRange] < 1000 || n[api.OK] < 20 {
		t.Errorf("%v: too few", n)
	}
}
