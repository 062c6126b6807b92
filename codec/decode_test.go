package codec_test

import (
	"math"
	"slices"
	"strings"
	"testing"

	"chandlery/api"
	"chandlery/codec"
)

// wantFault asks for bytes to be refused, with an error at a place.
func wantFault(t *testing.T, what, s string, place int, e api.Errno) {
	t.Helper()
	d, p, f := codec.Decode(s)
	if p != place || f != e {
		t.Errorf("%s: Decode(%x): at %d with %d, want %d with %d", what, clip(s), p, f, place, e)
	}
	if d.Repos != nil || d.Installed != nil {
		t.Errorf("%s: Decode(%x): %.300v with %d", what, clip(s), d, f)
	}
}

// wantDecode asks for what is found of bytes by other means, and tells the error.
func wantDecode(t *testing.T, what, s string) api.Errno {
	t.Helper()
	want, place, e := decodeBy(s)
	if e != api.OK {
		wantFault(t, what, s, place, e)
		if place < 0 || place > len(s) {
			t.Errorf("%s: place %d of %d bytes", what, place, len(s))
		}
		return e
	}
	d, p, f := codec.Decode(s)
	if !sameBy(d, want) || p != 0 || f != api.OK {
		t.Errorf("%s: Decode(%x): %.300v at %d with %d, want %.300v", what, clip(s), d, p, f, want)
	}
	if u, e := codec.Encode(d); u != s || e != api.OK || codec.Check(d) != api.OK {
		t.Errorf("%s: Encode of Decode: %x with %d, want %x", what, clip(u), e, clip(s))
	}
	return e
}

// varied are numbers in, about and far beyond a range.
func varied(least, most int) []int {
	return []int{0, least - 1, least, least + 1, most - 1, most, most + 1, most + 128, 127, 128, 255, 256, 257, 258, 260, 263, 1 << 16, 1 << 31, 1 << 32, 1<<32 + 1, 1<<62 - 1, 1<<63 - 1}
}

// wantRange asks for a number to be refused at its place beyond its range, and, in its range, not for that.
func wantRange(t *testing.T, items []item, n int) {
	t.Helper()
	i := items[n]
	rest := i.bytes[1:] // of a text
	if !i.text {
		rest = ""
	}
	for _, number := range varied(i.least, i.most) {
		if number < 0 {
			continue
		}
		s := with(items, n, numBy(number)+rest)
		if number < i.least || number > i.most {
			wantFault(t, i.name+" out of range", s, i.place, api.ErrRange)
			wantFault(t, i.name+" out of range, and nothing behind it", s[:i.place+len(numBy(number))], i.place, api.ErrRange)
		} else if _, place, e := codec.Decode(s); e == api.ErrRange && place == i.place {
			t.Errorf("%s: %d is out of range", i.name, number)
		}
		wantDecode(t, i.name, s)
	}
}

// P11.1: each allowed range at its ends, and one beyond them, at each item of data.
func TestDecodeRanges(t *testing.T) {
	t.Parallel()
	seen := map[string]int{}
	for _, d := range []codec.Data{{}, {Repos: repos(1)}, {Installed: several(1)}, mixed()} {
		items := itemsBy(d)
		for n, i := range items {
			seen[i.name]++
			wantRange(t, items, n)
		}
	}
	for name := range bounds {
		if seen[name] == 0 {
			t.Errorf("%s has not been asked for", name)
		}
	}
}

// P11.1: a number with more bytes than necessary, one that has no end, and one whose bytes are missing, at each item of data.
func TestDecodeNumbers(t *testing.T) {
	for _, d := range []codec.Data{{}, mixed()} {
		items := itemsBy(d)
		for n, i := range items {
			number, rest := i.bytes, ""
			if i.text {
				number, rest = i.bytes[:1], i.bytes[1:]
			}
			last := len(number) - 1
			more := number[:last] + string([]byte{number[last] | 128})
			for zeros := range 9 - len(number) {
				wide := more + strings.Repeat("\x80", zeros) + "\x00"
				wantFault(t, i.name+" too wide", with(items, n, wide+rest), i.place, api.ErrWide)
				wantFault(t, i.name+" cut off", joined(items[:n])+wide[:len(wide)-1], i.place, api.ErrShort)
			}
			wantFault(t, i.name+" out of range, and too wide", with(items, n, "\xff\xff\xff\xff\xff\x7f"[:6]+rest), i.place, api.ErrRange)
			wantFault(t, i.name+" of nine bytes", with(items, n, strings.Repeat("\xff", 8)+"\x7f"+rest), i.place, api.ErrRange)
			wantFault(t, i.name+" of ten bytes", with(items, n, strings.Repeat("\x80", 9)+"\x00"+rest), i.place, api.ErrRange)
			wantFault(t, i.name+" without end", joined(items[:n])+strings.Repeat("\xff", 100), i.place, api.ErrRange)
			wantFault(t, i.name+" missing", joined(items[:n]), i.place, api.ErrShort)
		}
	}
}

// P11.1: just as many repositories, and packages of all, as there may be, and one more.
func TestDecodeCounts(t *testing.T) {
	t.Parallel()
	wantFault(t, "17 repositories", bytesBy(codec.Data{Repos: repos(17)}), 0, api.ErrRange)
	for first := range 258 {
		d := codec.Data{Repos: []api.Repo{repo(several(first)...), repo(several(256 - min(first, 256))...)}, Installed: several(1)}
		items := itemsBy(d)
		place := items[find(items, "Installed", 0)].place
		if first > 256 {
			place = items[find(items, "Packages", 0)].place
		}
		wantFault(t, "a package too many", joined(items), place, api.ErrRange)
		if first < 256 {
			d.Repos[1].Packages = append(d.Repos[1].Packages, called("more"))
			items := itemsBy(d)
			wantFault(t, "a package too many in the second", joined(items), items[find(items, "Packages", 1)].place, api.ErrRange)
		}
	}
	l := repos(16)
	for i := range l {
		l[i].Packages = several(16)
	}
	d := codec.Data{Repos: l}
	wantBytes(t, "256 packages", d, bytesBy(d))
	d.Installed = several(1)
	wantFault(t, "257 packages", bytesBy(d), len(bytesBy(codec.Data{Repos: l}))-1, api.ErrRange)
	l[15].Packages = several(17)
	wantFault(t, "257 packages in repositories", bytesBy(d), itemsBy(d)[find(itemsBy(d), "Packages", 15)].place, api.ErrRange)
}

// P11.1: lists just as long as they may be, and longer ones.
func TestDecodeLists(t *testing.T) {
	for _, n := range []int{33, 34, 40, 127, 128, 200} {
		for _, list := range depLists {
			p := ordinary()
			*list.of(&p) = slices.Repeat([]api.Dep{named("b")}, n)
			wantItem(t, p, list.name, 0, api.ErrRange)
		}
		for _, list := range richLists {
			p := ordinary()
			*list.of(&p) = slices.Repeat([]api.Rich{atom("b")}, n)
			wantItem(t, p, list.name, 0, api.ErrRange)
		}
		p := ordinary()
		p.Files = files(n)
		wantItem(t, p, "Files", 0, api.ErrRange)
	}
	for n := range 28 {
		p := called("b")
		p.Suggests = []api.Rich{atom("a"), of(api.And, slices.Repeat([]api.Rich{atom("c")}, n)...)}
		switch {
		case n < 2 || n > 24:
			wantItem(t, p, "Args", 0, api.ErrRange)
		case n == 24:
			wantItem(t, p, "Name", 0, api.ErrForm)
		default:
			d := codec.Data{Installed: []api.Package{p}}
			wantBytes(t, "Args", d, bytesBy(d))
		}
	}
}

// wantItem asks for data with a package to be refused at one of its items, wherever the package stands: of those of that name, the one that so many others of the package precede.
func wantItem(t *testing.T, p api.Package, name string, others int, e api.Errno) {
	t.Helper()
	own := listed(codec.Data{Installed: []api.Package{p}})
	within := own.items[find(own.items, name, others)].place - own.starts[0]
	eachPlaced(p, func(d codec.Data, n int) {
		all := listed(d)
		s, place := joined(all.items), all.starts[n]+within
		wantFault(t, name, s, place, e)
		wantFault(t, name+", more behind", s+"x", place, e)
		wantDecode(t, name, s)
	})
}

// P11.1: texts just as long as they may be, and longer ones.
func TestDecodeTexts(t *testing.T) {
	for _, n := range []int{65, 66, 100, 127, 128, 1000} {
		s := strings.Repeat("x", n)
		change := func(name string, others int, change func(*api.Package)) {
			t.Helper()
			p := ordinary()
			change(&p)
			wantItem(t, p, name, others, api.ErrRange)
		}
		change("Name", 0, func(p *api.Package) { p.Name = s })
		change("Ver", 0, func(p *api.Package) { p.EVR.Ver = s })
		change("Rel", 0, func(p *api.Package) { p.EVR.Rel = s })
		change("Vendor", 0, func(p *api.Package) { p.Vendor = s })
		change("Name", 1, func(p *api.Package) { p.Provides[0].Name = s })
		change("Ver", 1, func(p *api.Package) { p.Provides[1].EVR.Ver = s })
		change("Rel", 1, func(p *api.Package) { p.Provides[1].EVR.Rel = s })
		change("Name", 3, func(p *api.Package) { p.Requires[0].Dep.Name = s })
		change("Name", 7, func(p *api.Package) { p.Requires[1].Args[2].Dep.Name = s })
		change("File", 0, func(p *api.Package) { p.Files[0] = s })
		change("File", 2, func(p *api.Package) { p.Files[2] = "/" + s })
	}
}

// P11.1: texts whose bytes are missing: where the text begins.
func TestDecodeShortTexts(t *testing.T) {
	for _, d := range []codec.Data{mixed(), {Installed: []api.Package{ordinary()}}} {
		items := itemsBy(d)
		for n, i := range items {
			if !i.text {
				continue
			}
			before := joined(items[:n])
			for _, size := range []int{1, 2, 63, 64} {
				for _, there := range []int{0, 1, size / 2, size - 1} {
					wantFault(t, i.name+" cut off", before+numBy(size)+longest[:min(there, size-1)], len(before)+1, api.ErrShort)
				}
			}
			wantFault(t, i.name+" too long, and cut off", before+"\x41", len(before), api.ErrRange)
		}
	}
}

// P11.1: an invalid package: where it begins, wherever it stands.
func TestDecodeInvalid(t *testing.T) {
	for name, p := range invalid() {
		if name == "nothing" { // its Arch is out of range
			wantItem(t, p, "Arch", 0, api.ErrRange)
			continue
		}
		wantItem(t, p, "Name", 0, api.ErrForm)
	}
	p := ordinary()
	for _, c := range []struct {
		change func(*api.Package)
		name   string
		others int
		e      api.Errno
	}{
		{func(p *api.Package) { p.EVR.Epoch = api.MaxEpoch + 1 }, "Epoch", 0, api.ErrRange},
		{func(p *api.Package) { p.EVR.Epoch = math.MaxInt }, "Epoch", 0, api.ErrRange},
		{func(p *api.Package) { p.Obsoletes[0].EVR.Epoch = api.MaxEpoch + 1 }, "Epoch", 2, api.ErrRange},
		{func(p *api.Package) { p.Arch = 0 }, "Arch", 0, api.ErrRange},
		{func(p *api.Package) { p.Arch = 5 }, "Arch", 0, api.ErrRange},
		{func(p *api.Package) { p.Arch = 255 }, "Arch", 0, api.ErrRange},
		{func(p *api.Package) { p.Provides[0].Op = 7 }, "Op", 0, api.ErrRange},
		{func(p *api.Package) { p.Provides[1].Op = 255 }, "Op", 1, api.ErrRange},
		{func(p *api.Package) { p.Provides[0] = ranged("a", 5, version("1", "")) }, "Name", 0, api.ErrForm},
		{func(p *api.Package) { p.Provides[0] = ranged("a", 6, version("", "1")) }, "Name", 0, api.ErrForm},
		{func(p *api.Package) { p.Requires[0].Kind = 0 }, "Kind", 0, api.ErrRange},
		{func(p *api.Package) { p.Requires[0].Kind = 8 }, "Kind", 0, api.ErrRange},
		{func(p *api.Package) { p.Requires[1].Args[0].Kind = 255 }, "Kind", 2, api.ErrRange},
		{func(p *api.Package) { p.Requires[1].Args = append(p.Requires[1].Args, atom("d")) }, "Name", 0, api.ErrForm},
	} {
		other := copied(p)
		c.change(&other)
		wantItem(t, other, c.name, c.others, c.e)
	}
}

// P11.1: what is nested just as deep as it may be, and deeper: at the first Kind too deep, if that is not Atom.
func TestDecodeDeep(t *testing.T) {
	for _, list := range richLists {
		for _, levels := range []int{9, 10, 11, 20} {
			p := called("b")
			*list.of(&p) = []api.Rich{atom("c"), deep(levels, true)}
			wantItem(t, p, "Kind", 1+8, api.ErrDeep)
			*list.of(&p) = []api.Rich{deep(levels, false), atom("c")}
			wantItem(t, p, "Kind", 2*8, api.ErrDeep)
		}
	}
	items := itemsBy(codec.Data{Installed: []api.Package{{Name: "b", EVR: version("1", "1"), Arch: api.NoArch, Requires: []api.Rich{deep(9, true)}}}})
	n := find(items, "Kind", 8)
	before, place := joined(items[:n]), items[n].place
	for kind, e := range []api.Errno{api.ErrRange, api.ErrShort, api.ErrDeep, api.ErrDeep, api.ErrDeep, api.ErrDeep, api.ErrDeep, api.ErrDeep, api.ErrRange, api.ErrRange} {
		at := place
		if kind == 1 {
			at++ // the Name of an Atom
		}
		wantFault(t, "too deep", before+numBy(kind), at, e)
		if kind != 1 {
			wantFault(t, "too deep, too many Args behind", before+numBy(kind)+"\x19", place, e)
			wantFault(t, "too deep, an Atom behind", before+numBy(kind)+"\x02\x01\x01a\x00", place, e)
		}
	}
	wantFault(t, "too deep, too wide", before+"\x82\x00", place, api.ErrWide)
	wantFault(t, "too deep, cut off", before+"\x82", place, api.ErrShort)
	wantFault(t, "too deep, cut off before it", before, place, api.ErrShort)
}

// P11.1: bytes that would nest very deeply are refused, and that soon.
func TestDecodeVeryDeep(t *testing.T) {
	before := bytesBy(codec.Data{Installed: []api.Package{called("b")}})
	before = before[:len(before)-8] + "\x01" // of the Requires
	for _, kind := range []string{"\x02\x02", "\x03\x18", "\x04\x02", "\x07\x02"} {
		wantFault(t, "very deep", before+strings.Repeat(kind, 1<<20), len(before)+16, api.ErrDeep)
	}
	wantFault(t, "very many Atoms", before+strings.Repeat("\x02\x18", 8)+strings.Repeat("\x01\x01a\x00", 24)+"\x09", len(before)+16+96, api.ErrRange)
}

// P11.1: an invalid package is told when it was read completely: after an error within it, ahead of one behind it.
func TestDecodeFirst(t *testing.T) {
	for name, p := range invalid() {
		if name == "nothing" {
			continue
		}
		alone := itemsBy(codec.Data{Installed: []api.Package{p}})
		for n, i := range alone[2:] {
			s := with(alone, 2+n, strings.Repeat("\xff", 9))
			wantFault(t, name+", and another error within", s, i.place, api.ErrRange)
			wantFault(t, name+", and cut off within", s[:i.place], i.place, api.ErrShort)
		}
		all := listed(codec.Data{Repos: []api.Repo{repo(called("b"), p, called("c"), api.Package{})}, Installed: []api.Package{{}}})
		s, start := joined(all.items), all.starts[1]
		for end := start + len(joined(alone[2:])); end <= len(s); end++ {
			wantFault(t, name+", and cut off behind", s[:end], start, api.ErrForm)
			wantFault(t, name+", and another error behind", s[:end]+"\xff\xff\xff\xff\xff\xff\xff\xff\xff", start, api.ErrForm)
		}
	}
}

// P11.1: of two errors the first one, wherever they are.
func TestDecodeTwice(t *testing.T) {
	t.Parallel()
	items := itemsBy(mixed())
	for n := range items {
		for m := range n {
			other := slices.Clone(items)
			other[n].bytes, other[m].bytes = strings.Repeat("\xff", 9), "\x80\x00"
			wantFault(t, items[m].name+", then "+items[n].name, joined(other), items[m].place, api.ErrWide)
			other[n].bytes, other[m].bytes = "\x80\x00", strings.Repeat("\xff", 9)
			wantFault(t, items[m].name+", then "+items[n].name, joined(other), items[m].place, api.ErrRange)
		}
	}
}

// P11.1: bytes of more than the greatest number are refused at 0, whatever they are.
func TestDecodeTooLarge(t *testing.T) {
	for _, begin := range []string{"", "\x11", "\x00\x00", bytesBy(mixed())} {
		for _, c := range []string{"\x00", "\xff", "x"} {
			s := begin + strings.Repeat(c, api.MaxBytes+1)
			wantFault(t, "a byte too many", s[:api.MaxBytes+1], 0, api.ErrTooLarge)
			_, place, e := decodeBy(s[:api.MaxBytes])
			wantFault(t, "as many as there may be", s[:api.MaxBytes], place, e)
			if e == api.ErrTooLarge {
				t.Errorf("%d bytes are too many", api.MaxBytes)
			}
		}
	}
	wantFault(t, "very many bytes", strings.Repeat("\x00", 1<<26), 0, api.ErrTooLarge)
}

// P11.1, P11.3: a package of as many Atoms as the bytes may hold is read completely, and refused.
func TestDecodeManyParts(t *testing.T) {
	t.Parallel()
	part := "\x01\x00\x00" // an Atom without a Name
	for range 4 {
		part = "\x02\x18" + strings.Repeat(part, 24)
	}
	before := "\x00\x01\x01b\x00\x011\x011\x01\x00\x00\x04"
	wantFault(t, "very many parts", before+strings.Repeat(part, 4)+strings.Repeat("\x00", 7), 2, api.ErrForm)
	wantFault(t, "very many parts, cut off", before+strings.Repeat(part, 4), len(before)+4*len(part), api.ErrShort)
}
