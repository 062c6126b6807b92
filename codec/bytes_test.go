package codec_test

import (
	"slices"
	"strconv"
	"strings"
	"testing"

	"chandlery/api"
	"chandlery/codec"
)

// wantBytes asks for the bytes of data, and for the data of these bytes.
func wantBytes(t *testing.T, what string, d codec.Data, want string) {
	t.Helper()
	s, e := codec.Encode(d)
	if s != want || e != api.OK {
		t.Errorf("%s: Encode: %x with %d, want %x", what, clip(s), e, clip(want))
	}
	back, place, e := codec.Decode(want)
	if !sameBy(back, d) || place != 0 || e != api.OK {
		t.Errorf("%s: Decode: %.300v at %d with %d, want %.300v", what, back, place, e, d)
	}
}

// clip is the beginning of a text, as far as it is told.
func clip(s string) string { return s[:min(len(s), 300)] }

// P11.1: the chapter's examples.
func TestExamples(t *testing.T) {
	wantBytes(t, "nothing", codec.Data{}, "\x00\x00")
	wantBytes(t, "one repository", codec.Data{Repos: []api.Repo{{Priority: 3}}}, "\x01\x03\x00\x00")
	wantFault(t, "11", "\x11", 0, api.ErrRange)
	p := called("b")
	p.Name = "and"
	for _, d := range []codec.Data{{Repos: []api.Repo{repo(p)}}, {Repos: []api.Repo{repo(p), {}}, Installed: several(2)}} {
		wantFault(t, "a Name and", bytesBy(d), 3, api.ErrForm)
	}
	wantFault(t, "a Name and, installed", bytesBy(codec.Data{Installed: []api.Package{p}}), 2, api.ErrForm)
}

// P11.1: the bytes of data that have some of everything, written out.
func TestBytesWrittenOut(t *testing.T) {
	p := api.Package{
		Name:        "ab",
		EVR:         api.EVR{Epoch: 300, Ver: "1.0", Rel: "2"},
		Arch:        api.I686,
		Vendor:      "V w",
		Provides:    []api.Dep{named("c"), ranged("d", api.Less|api.Equal, version("1", ""))},
		Requires:    []api.Rich{atom("e"), of(api.Or, atom("f"), of(api.And, atom("g"), api.Rich{Kind: api.Atom, Dep: ranged("h", api.Greater|api.Equal, api.EVR{Epoch: 2, Ver: "1", Rel: "1"})}))},
		Conflicts:   []api.Rich{of(api.Unless, atom("i"), atom("j"), atom("k"))},
		Obsoletes:   []api.Dep{ranged("l", api.Less, api.EVR{Epoch: 1, Ver: "2", Rel: "3"})},
		Recommends:  []api.Rich{of(api.If, atom("m"), atom("n"))},
		Supplements: []api.Rich{of(api.With, atom("o"), atom("p"))},
		Suggests:    []api.Rich{{Kind: api.Atom, Dep: ranged("q", api.Greater, version("4", ""))}},
		Enhances:    []api.Rich{of(api.Without, atom("r"), api.Rich{Kind: api.Atom, Dep: ranged("s", api.Equal, version("5", ""))})},
		Files:       []string{"/t", "/u"},
	}
	bytes := "\x02" + "\xac\x02" + "\x01" +
		"\x02ab" + "\xac\x02\x031.0\x012" + "\x03" + "\x03V w" +
		"\x02" + "\x01c\x00" + "\x01d\x03\x00\x011\x00" +
		"\x02" + "\x01\x01e\x00" + "\x03\x02" + "\x01\x01f\x00" + "\x02\x02" + "\x01\x01g\x00" + "\x01\x01h\x06\x02\x011\x011" +
		"\x01" + "\x05\x03" + "\x01\x01i\x00" + "\x01\x01j\x00" + "\x01\x01k\x00" +
		"\x01" + "\x01l\x01\x01\x012\x013" +
		"\x01" + "\x04\x02" + "\x01\x01m\x00" + "\x01\x01n\x00" +
		"\x01" + "\x06\x02" + "\x01\x01o\x00" + "\x01\x01p\x00" +
		"\x01" + "\x01\x01q\x04\x00\x014\x00" +
		"\x01" + "\x07\x02" + "\x01\x01r\x00" + "\x01\x01s\x02\x00\x015\x00" +
		"\x02" + "\x02/t" + "\x02/u" +
		"\x00" + "\x00"
	d := codec.Data{Repos: []api.Repo{{Priority: 300, Packages: []api.Package{p}}, {}}}
	wantBytes(t, "nothing installed", d, bytes+"\x00")
	d.Installed = []api.Package{called("a")}
	wantBytes(t, "something installed", d, bytes+"\x01"+"\x01a"+"\x00\x011\x011"+"\x01"+"\x00"+strings.Repeat("\x00", 9))
}

// P11.1, P11.2: the bytes of many data, held against what is found by other means; Decode of them are the data.
func TestBytesAny(t *testing.T) {
	t.Parallel()
	for i, d := range append(small()[:5], emptied(mixed()), codec.Data{Repos: []api.Repo{repo(full())}, Installed: []api.Package{full(), called("b")}}) {
		wantBytes(t, "given ones, number "+strconv.Itoa(i), d, bytesBy(d))
	}
	var d dice
	for range 3000 {
		data := d.data()
		wantBytes(t, "grown ones", data, bytesBy(data))
	}
}

// P11.1, P11.2: as many of everything as there may be, wherever they are.
func TestBytesOfMany(t *testing.T) {
	for _, n := range []int{15, 16} {
		l := repos(n)
		for i := range l {
			l[i] = api.Repo{Priority: api.MaxPriority - i, Packages: several(i)}
		}
		d := codec.Data{Repos: l, Installed: several(256 - n*(n-1)/2)}
		wantBytes(t, "repositories", d, bytesBy(d))
	}
	for _, n := range []int{0, 1, 127, 128, 255, 256} {
		for _, d := range []codec.Data{
			{Repos: []api.Repo{repo(several(n)...)}, Installed: several(256 - n)},
			{Repos: []api.Repo{repo(several(n)...), repo(several(256 - n)...)}},
			{Installed: several(n)},
		} {
			wantBytes(t, "packages", d, bytesBy(d))
		}
	}
	for n := range 33 {
		p := called("b")
		p.Files = files(n)
		for _, list := range depLists {
			*list.of(&p) = slices.Repeat([]api.Dep{named("c")}, n)
		}
		for _, list := range richLists {
			*list.of(&p) = slices.Repeat([]api.Rich{atom("d")}, n)
		}
		d := codec.Data{Installed: []api.Package{p}}
		wantBytes(t, "lists", d, bytesBy(d))
	}
}

// P11.1, P11.2: rich dependencies just as deep, and of just as many parts, as may be, in each list.
func TestBytesOfDeep(t *testing.T) {
	for levels := range api.MaxNest + 1 {
		for _, first := range []bool{true, false} {
			for _, list := range richLists {
				p := called("b")
				*list.of(&p) = []api.Rich{atom("c"), deep(levels, first), atom("d")}
				d := codec.Data{Repos: []api.Repo{repo(p)}}
				wantBytes(t, list.name, d, bytesBy(d))
			}
		}
	}
	for n := 2; n < api.MaxNodes; n++ {
		for _, kind := range []uint8{api.And, api.Or, api.With} {
			p := called("b")
			p.Requires = []api.Rich{of(kind, slices.Repeat([]api.Rich{atom("c")}, n)...)}
			d := codec.Data{Installed: []api.Package{p}}
			wantBytes(t, "Args", d, bytesBy(d))
		}
	}
}

// P11.1, P11.2: each number, and each text, at the ends of its range.
func TestBytesOfEdges(t *testing.T) {
	check := func(what string, d codec.Data) {
		t.Helper()
		wantBytes(t, what, d, bytesBy(d))
	}
	for priority := range api.MaxPriority + 1 {
		check("a Priority", codec.Data{Repos: []api.Repo{{Priority: priority}}})
	}
	change := func(what string, change func(*api.Package)) {
		t.Helper()
		p := ordinary()
		change(&p)
		check(what, codec.Data{Repos: []api.Repo{repo(called("b"), p)}, Installed: []api.Package{p}})
	}
	for _, epoch := range []int{0, 1, 127, 128, 16383, 16384, 2097151, 2097152, 268435455, 268435456, api.MaxEpoch - 1, api.MaxEpoch} {
		change("an Epoch", func(p *api.Package) {
			p.EVR.Epoch, p.Obsoletes[0].EVR.Epoch, p.Suggests[0].Dep.EVR.Epoch = epoch, epoch, epoch
		})
	}
	for n := range api.MaxName {
		s := longest[:n+1]
		change("texts", func(p *api.Package) {
			p.Name, p.EVR.Ver, p.EVR.Rel, p.Vendor, p.Files = s, s, s, s, []string{"/" + s[1:]}
			p.Provides[0].Name, p.Obsoletes[0].EVR.Ver, p.Requires[0].Dep.Name, p.Suggests[0].Dep.EVR.Rel = s, s, s, s
		})
	}
	for c := range 256 {
		change("a Vendor", func(p *api.Package) { p.Vendor = string([]byte{byte(c), 'v'}) })
	}
	for arch := api.NoArch; arch <= api.AArch64; arch++ {
		change("an Arch", func(p *api.Package) { p.Arch = arch })
	}
	for _, op := range []uint8{1, 2, 3, 4, 6} {
		change("an Op", func(p *api.Package) { p.Provides[1].Op, p.Suggests[0].Dep.Op = op, op })
	}
}

// large are data of about as many bytes as there may be, of which the last package but one may be grown.
type large struct {
	data  codec.Data
	grown *api.Package
	bytes int
}

// newLarge makes large ones of a few bytes less than there may be. The tail stands last, in the repository or among those that are installed.
func newLarge(tail api.Package, installed bool) large {
	p := called("b")
	parts := []api.Rich{full().Requires[0], atom(longest)}
	l := large{data: codec.Data{Repos: []api.Repo{repo(full(), full(), full(), full(), p, tail)}}}
	l.grown = &l.data.Repos[0].Packages[4]
	if installed {
		l.data = codec.Data{Repos: []api.Repo{repo(full(), full(), full())}, Installed: []api.Package{full(), p, tail}}
		l.grown = &l.data.Installed[1]
	}
	l.bytes = len(bytesBy(l.data))
	for _, r := range parts {
		before := len(bytesBy(codec.Data{Installed: []api.Package{called("b")}}))
		p.Requires = []api.Rich{r}
		part := len(bytesBy(codec.Data{Installed: []api.Package{p}})) - before
		for _, list := range richLists {
			for len(*list.of(l.grown)) < api.MaxDeps && l.bytes+part < api.MaxBytes {
				*list.of(l.grown) = append(*list.of(l.grown), r)
				l.bytes += part
			}
		}
	}
	return l
}

// of are the data, grown to so many bytes.
func (l large) of(size int) codec.Data {
	missing := size - l.bytes
	grow := func(text *string, before string) {
		n := min(missing, api.MaxName-len(before))
		*text = before + longest[:n]
		missing -= n
	}
	grow(&l.grown.Vendor, "")
	grow(&l.grown.Name, "b")
	grow(&l.grown.EVR.Ver, "1")
	return l.data
}

// tails are packages that end in unlike ways.
func tails() []api.Package {
	p := called("c")
	q := api.Package{Name: "q", EVR: api.EVR{Epoch: api.MaxEpoch, Ver: "1234567890", Rel: "1"}, Arch: api.X8664, Vendor: "v", Files: []string{"/", "/abcdef"}}
	r := q
	r.Name, r.Files, r.Enhances = "r", []string{"/abcdef", "/b"}, []api.Rich{{Kind: api.Atom, Dep: ranged("a", api.Less, api.EVR{Epoch: 1 << 20, Ver: "1"})}}
	return []api.Package{p, q, r}
}

// wantAtMost asks for data of just the greatest number of bytes to be written, and read; and for those of more to be refused, whichever of the tail's items it is that does not fit, and whatever comes behind it.
func wantAtMost(t *testing.T, tail api.Package, installed bool) {
	l := newLarge(tail, installed)
	for size := api.MaxBytes - 1; size <= api.MaxBytes; size++ {
		s := bytesBy(l.of(size))
		wantBytes(t, "as many bytes as may be", l.of(size), s)
		if len(s) != size {
			t.Errorf("%d bytes, not %d", len(s), size)
		}
	}
	last := len(bytesBy(codec.Data{Installed: []api.Package{tail}}))
	for more := 1; more <= last; more++ {
		if s, e := codec.Encode(l.of(api.MaxBytes + more)); s != "" || e != api.ErrTooLarge {
			t.Errorf("%d bytes too many: %d bytes with %d", more, len(s), e)
		}
	}
	d := l.of(api.MaxBytes + 1)
	if e := codec.Check(d); e != api.OK {
		t.Errorf("Check of a byte too many: %d", e)
	}
	wantFault(t, "a byte too many", bytesBy(d), 0, api.ErrTooLarge)
}

// P11.1: data of just the greatest number of bytes, and of more.
func TestBytesAtMost(t *testing.T) {
	for _, tail := range tails() {
		t.Run("repositories, "+tail.Name, func(t *testing.T) {
			t.Parallel()
			wantAtMost(t, tail, false)
		})
		t.Run("installed, "+tail.Name, func(t *testing.T) {
			t.Parallel()
			wantAtMost(t, tail, true)
		})
	}
}

// P11.1: data of far too many bytes are refused, and what Check tells comes first.
func TestBytesFarTooMany(t *testing.T) {
	d := codec.Data{Installed: slices.Repeat([]api.Package{full()}, 20)}
	if s, e := codec.Encode(d); s != "" || e != api.ErrTooLarge {
		t.Errorf("far too many bytes: %d with %d", len(s), e)
	}
	d.Repos = []api.Repo{{Priority: -1}}
	wantCheck(t, "far too many bytes, a Priority", d, api.ErrRange)
	d.Repos = []api.Repo{repo(several(1)...), repo(api.Package{})}
	wantCheck(t, "far too many bytes, a package", d, api.ErrForm)
}

// P11.5: different data have different bytes, however alike they are.
func TestBytesOfAlike(t *testing.T) {
	p, q := called("b"), called("c")
	p.Provides, q.Requires = []api.Dep{named("d")}, []api.Rich{atom("e"), of(api.And, atom("f"), atom("g"))}
	l := []codec.Data{
		{}, {Repos: repos(1)}, {Repos: repos(2)},
		{Installed: []api.Package{p}}, {Installed: []api.Package{p, q}}, {Installed: []api.Package{q, p}}, {Installed: []api.Package{p, p}},
		{Repos: []api.Repo{repo(p)}}, {Repos: []api.Repo{repo(), repo(p)}}, {Repos: []api.Repo{repo(p), repo()}}, {Repos: []api.Repo{{Priority: 1, Packages: []api.Package{p}}}},
		{Repos: []api.Repo{repo(p, q)}}, {Repos: []api.Repo{repo(q, p)}}, {Repos: []api.Repo{repo(p), repo(q)}}, {Repos: []api.Repo{repo(p)}, Installed: []api.Package{q}},
	}
	change := func(change func(*api.Package)) {
		other := ordinary()
		change(&other)
		l = append(l, codec.Data{Installed: []api.Package{other}})
	}
	change(func(*api.Package) {})
	change(func(p *api.Package) { p.Name, p.EVR.Ver = "vim9", ".1" })
	change(func(p *api.Package) { p.EVR.Ver, p.EVR.Rel = "9", ".13" })
	change(func(p *api.Package) { p.EVR.Ver = "9_1" })
	change(func(p *api.Package) { p.EVR.Ver, p.EVR.Rel = p.EVR.Rel, p.EVR.Ver })
	change(func(p *api.Package) { slices.Reverse(p.Provides) })
	change(func(p *api.Package) { p.Provides, p.Obsoletes = p.Obsoletes, p.Provides })
	change(func(p *api.Package) { slices.Reverse(p.Requires) })
	change(func(p *api.Package) { p.Requires, p.Recommends = p.Recommends, p.Requires })
	change(func(p *api.Package) { p.Requires, p.Suggests = p.Suggests, p.Requires })
	change(func(p *api.Package) { p.Supplements, p.Enhances = p.Enhances, p.Supplements })
	change(func(p *api.Package) { p.Recommends[0].Kind = api.And })
	change(func(p *api.Package) { p.Recommends = p.Recommends[0].Args })
	change(func(p *api.Package) { slices.Reverse(p.Recommends[0].Args) })
	change(func(p *api.Package) { p.Files = p.Files[1:] })
	change(func(p *api.Package) { p.Files = p.Files[:2] })
	by := map[string]int{}
	for i, d := range l {
		s, e := codec.Encode(d)
		if e != api.OK {
			t.Errorf("number %d is refused: %d", i, e)
		}
		if n, ok := by[s]; ok {
			t.Errorf("the numbers %d and %d have the same bytes: %x", n, i, s)
		}
		by[s] = i
	}
}

// P11.5: data that differ in one part alone have different bytes, as far as they are valid.
func TestBytesOfUnlike(t *testing.T) {
	n := 0
	for _, d := range small()[:5] {
		s, _ := codec.Encode(d)
		eachAltered(d, func(name string, other codec.Data) {
			u, e := codec.Encode(other)
			if e == api.OK {
				n++
				wantBytes(t, name+" altered", other, bytesBy(other))
			}
			if s == u {
				t.Errorf("%s altered: the same bytes", name)
			}
		})
	}
	if n < 100 {
		t.Errorf("%d: too few", n)
	}
}

// P11.5: of all data that are grown by a rule, those that have the same bytes are the same.
func TestBytesApart(t *testing.T) {
	var die dice
	by := map[string]codec.Data{}
	twice := 0
	for range 3000 {
		d := die.data()
		if die.roll(2) == 0 {
			d = codec.Data{Repos: repos(die.roll(3)), Installed: several(die.roll(3))}
		}
		s, _ := codec.Encode(d)
		if other, ok := by[s]; ok {
			twice++
			if !sameBy(d, other) {
				t.Errorf("%v and %v have the same bytes", d, other)
			}
		}
		by[s] = d
	}
	if twice < 100 || len(by) < 1000 {
		t.Errorf("%d twice, %d apart: too few", twice, len(by))
	}
}
