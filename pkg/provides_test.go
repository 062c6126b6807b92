package pkg_test

import (
	"slices"
	"strings"
	"testing"

	"chandlery/api"
	"chandlery/dep"
	"chandlery/pkg"
)

// Ops that are of two bits.
const (
	atMost  = api.Less | api.Equal
	atLeast = api.Greater | api.Equal
)

// want asks for whether a package provides a dependency, and whether it is named by it.
func want(t *testing.T, what string, p api.Package, d api.Dep, provides, named bool) {
	t.Helper()
	if pkg.Provides(p, d) != provides {
		t.Errorf("%s: Provides %.200q, Op %d, %v: %v", what, d.Name, d.Op, d.EVR, !provides)
	}
	if pkg.Named(p, d) != named {
		t.Errorf("%s: Named %.200q, Op %d, %v: %v", what, d.Name, d.Op, d.EVR, !named)
	}
}

// read is the dependency of a text.
func read(t *testing.T, s string) api.Dep {
	t.Helper()
	d, e := dep.Parse(s)
	if e != api.OK {
		t.Fatal(s, e)
	}
	return d
}

// P10.1: the chapter's examples.
func TestExamples(t *testing.T) {
	p := plain()
	for _, s := range []string{"a = 1", "a >= 0", "a"} {
		want(t, "a 1-1", p, read(t, s), true, true)
	}
	for _, s := range []string{"b", "b < 4", "b = 3", "/f"} {
		want(t, "a 1-1", p, read(t, s), false, false)
	}
	p.Provides = []api.Dep{read(t, "b = 3")}
	for _, s := range []string{"b < 4", "b = 3", "b"} {
		want(t, "with Provides b = 3", p, read(t, s), true, false)
	}
	p.Files = []string{"/f"}
	want(t, "with Files /f", p, read(t, "/f"), true, false)
	want(t, "with Files /f", p, read(t, "b > 3"), false, false)
	if own := pkg.Own(p); own != read(t, "a = 1-1") {
		t.Errorf("Own: %v", own)
	}
	wantMay(t, "the example", p, true)
}

// P10.1: its own dependency is its Name, with Equal its EVR, whatever these are.
func TestOwn(t *testing.T) {
	for _, name := range []string{"", "a", "/a", "if", longest + "x", "\xff", "a = 1"} {
		for _, e := range []api.EVR{{}, version("1", ""), version("1", "2"), {Epoch: -7, Ver: "\x00", Rel: longest + "x"}, {Epoch: 1<<63 - 1}, version("", "1")} {
			for _, p := range some() {
				p.Name, p.EVR = name, e
				if own := pkg.Own(p); own != ranged(name, api.Equal, e) {
					t.Errorf("Own of %q %v: %v", name, e, own)
				}
			}
		}
	}
}

// P10.1: what names a package with an EVR, by each Op, from below, at the same, and from above.
func TestNamed(t *testing.T) {
	p := ordinary() // vim 2:9.1-3
	p.Provides = nil
	for _, c := range []struct {
		e    api.EVR
		side uint8 // where the package's EVR is, seen from this one
	}{
		{p.EVR, api.Equal}, {api.EVR{Epoch: 2, Ver: "9.1"}, api.Equal}, {api.EVR{Epoch: 2, Ver: "09_1", Rel: "03"}, api.Equal},
		{api.EVR{Epoch: 2, Ver: "9.1", Rel: "2"}, api.Greater}, {api.EVR{Epoch: 2, Ver: "9"}, api.Greater}, {api.EVR{Epoch: 1, Ver: "10", Rel: "1"}, api.Greater}, {version("10", ""), api.Greater}, {api.EVR{Epoch: 2, Ver: "9.1~rc", Rel: "9"}, api.Greater},
		{api.EVR{Epoch: 2, Ver: "9.1", Rel: "4"}, api.Less}, {api.EVR{Epoch: 2, Ver: "9.10"}, api.Less}, {api.EVR{Epoch: 3, Ver: "1", Rel: "1"}, api.Less}, {api.EVR{Epoch: 2, Ver: "9.1^git", Rel: "1"}, api.Less},
	} {
		for n := range 256 { // an invalid Op is taken bit by bit
			op := uint8(n)
			met := op%8 == 0 || op&c.side != 0
			want(t, "vim", p, ranged("vim", op, c.e), met, met)
			want(t, "another name", p, ranged("emacs", op, c.e), false, false)
			want(t, "the name's start", p, ranged("vi", op, c.e), false, false)
		}
	}
	for _, name := range []string{"", "Vim", "VIM", "vim ", " vim", "vi\x00m", "vimx", "im", "Some & Co.", "x86_64", "vim = 1"} {
		want(t, "a name that it has not", p, named(name), false, false)
	}
	var none api.Package
	want(t, "nothing", none, api.Dep{}, true, true)
	want(t, "nothing, of that EVR", none, ranged("", api.Equal, api.EVR{}), true, true)
	want(t, "nothing, of a greater EVR", none, ranged("", api.Greater, api.EVR{}), false, false)
	want(t, "nothing, by a name", none, named("a"), false, false)
}

// P10.1: what meets one of its Provides, wherever that stands, is provided, and does not name it.
func TestProvides(t *testing.T) {
	e, below, above := version("2", "1"), version("1", "9"), version("3", "")
	for _, c := range []struct {
		provided, asked api.Dep
		met             bool
	}{
		{named("b"), named("b"), true}, {named("b"), ranged("b", api.Equal, e), true}, {named("b"), ranged("b", api.Less, e), true}, {named("b"), ranged("b", 5, e), true}, {named("b"), ranged("b", 8, e), true},
		{named("b"), named("c"), false}, {named("b"), named("B"), false}, {named("b"), named("bb"), false}, {named("bb"), named("b"), false}, {named("b"), named(""), false}, {named(""), named(""), true},
		{ranged("b", api.Equal, e), named("b"), true}, {ranged("b", api.Equal, e), named("c"), false}, {ranged("b", api.Equal, e), ranged("c", api.Equal, e), false},
		{ranged("b", api.Equal, e), ranged("b", api.Equal, version("2", "")), true}, {ranged("b", api.Equal, e), ranged("b", api.Equal, version("2", "2")), false},
		{ranged("b", api.Equal, e), ranged("b", atLeast, below), true}, {ranged("b", api.Equal, e), ranged("b", atMost, below), false}, {ranged("b", api.Equal, e), ranged("b", atLeast, above), false}, {ranged("b", api.Equal, e), ranged("b", atMost, above), true},
		{ranged("b", api.Less, e), ranged("b", api.Less, below), true}, {ranged("b", api.Less, e), ranged("b", api.Greater, below), true}, {ranged("b", api.Less, e), ranged("b", api.Greater, e), false}, {ranged("b", api.Less, e), ranged("b", api.Equal, e), false}, {ranged("b", api.Less, e), ranged("b", api.Greater, above), false},
		{ranged("b", atLeast, e), ranged("b", atMost, e), true}, {ranged("b", atLeast, e), ranged("b", atMost, below), false}, {ranged("b", api.Greater, e), ranged("b", atMost, e), false},
		{ranged("b", 5, e), ranged("b", api.Equal, e), false}, {ranged("b", 5, e), ranged("b", api.Equal, below), true}, {ranged("b", 0xF8, e), ranged("b", api.Less, below), true}, {ranged("b", 0xFA, e), ranged("b", api.Equal, above), false},
		{ranged("b", api.Any, e), ranged("b", api.Equal, above), true}, {ranged("b", api.Equal, e), ranged("b", api.Any, above), true},
		{ranged("a", api.Equal, e), ranged("a", api.Equal, e), true}, {ranged("a", api.Equal, e), ranged("a", api.Greater, e), false},
	} {
		beside := []api.Dep{named("x"), ranged("x", api.Equal, e), ranged("b", api.Equal, version("7", "7"))}
		for i := range 4 {
			p := plain()
			p.Provides = slices.Insert(slices.Clone(beside), i, c.provided)
			met := c.met || metBeside(c.asked)
			want(t, "Provides "+c.provided.Name, p, c.asked, met, c.asked.Name == "a" && namedBy(p, c.asked))
		}
		p := plain()
		p.Provides = []api.Dep{c.provided}
		want(t, "Provides alone", p, c.asked, c.met, false)
	}
}

// metBeside says whether a dependency meets b = 7-7.
func metBeside(d api.Dep) bool { return namedBy(api.Package{Name: "b", EVR: version("7", "7")}, d) }

// P10.1: only its Name, its Provides and its Files are provided, and only its Name names it.
func TestProvidesNothingElse(t *testing.T) {
	p := plain()
	p.Vendor = "v"
	for _, list := range richLists {
		*list.of(&p) = []api.Rich{atom(list.name), of(api.And, atom("x"), atom("/x"))}
	}
	p.Obsoletes = []api.Dep{named("Obsoletes"), ranged("o", api.Equal, version("1", "1"))}
	wantMay(t, "with all but Provides and Files", p, true)
	for _, name := range []string{"v", "x", "/x", "o", "Obsoletes", "noarch", "1", "1-1", "Requires", "Conflicts", "Recommends", "Supplements", "Suggests", "Enhances"} {
		want(t, "what it does not provide", p, named(name), false, false)
		want(t, "what it does not provide", p, ranged(name, api.Equal, p.EVR), false, false)
	}
	p.Provides, p.Files = []api.Dep{named("b")}, []string{"/f"}
	for _, op := range []uint8{api.Any, api.Equal, atLeast, 8} {
		want(t, "a provided one", p, ranged("b", op, p.EVR), true, false)
		want(t, "a file", p, ranged("/f", op, p.EVR), op == api.Any, false)
	}
}

// P10.1: the name of a file is provided with the Op Any alone: not with another one, valid or not, nor with one without any of the three bits.
func TestProvidesFiles(t *testing.T) {
	p := plain()
	p.Files = []string{"/a", "/f", "/usr/bin/f"}
	for n := range 256 {
		op := uint8(n)
		for _, file := range p.Files {
			for _, e := range []api.EVR{{}, p.EVR, {Epoch: -1}} {
				want(t, "a file", p, ranged(file, op, e), op == api.Any, false)
			}
		}
	}
	for _, name := range []string{"", "/", "f", "/F", "/fa", "/usr", "/usr/bin", "/usr/bin/", "/usr/bin/f/", "/usr/bin/ff", "usr/bin/f", "/f /a", "//f"} {
		want(t, "no file of it", p, named(name), false, false)
	}
	whole := full()
	for _, file := range whole.Files {
		want(t, "one of many files", whole, named(file), true, false)
		want(t, "one of many files, longer", whole, named(file+"0"), false, false)
	}
	p.Files = []string{"/z", "/m", "f", "", "/m", "/a"} // an invalid list
	for _, file := range p.Files {
		want(t, "a file that stands at a wrong place", p, named(file), true, false)
		want(t, "a file that stands at a wrong place", p, ranged(file, 16, api.EVR{}), false, false)
	}
}

// P10.1: a name that is both a file and provided, and one that is both a file and its own.
func TestProvidesFilesToo(t *testing.T) {
	e := version("1", "1")
	p := plain()
	p.Provides, p.Files = []api.Dep{named("/f")}, []string{"/f", "/g"}
	wantMay(t, "both a file and provided", p, true)
	only := plain()
	only.Provides = []api.Dep{named("/f")}
	for n := range 256 {
		want(t, "both a file and provided", p, ranged("/f", uint8(n), e), true, false)
		want(t, "only provided", only, ranged("/f", uint8(n), e), true, false)
		want(t, "only a file", p, ranged("/g", uint8(n), e), n == 0, false)
	}
	p.Provides = []api.Dep{ranged("/f", api.Equal, e)} // invalid, but one that is met by some
	own := plain()
	own.Name, own.Files = "/f", []string{"/f"} // invalid
	for n := range 256 {
		op := uint8(n)
		for _, c := range []struct {
			e   api.EVR
			met bool
		}{{e, op%8 == 0 || op&api.Equal != 0}, {version("0", ""), op%8 == 0 || op&api.Greater != 0}, {version("2", ""), op%8 == 0 || op&api.Less != 0}} {
			want(t, "both a file and provided with Equal", p, ranged("/f", op, c.e), c.met, false)
			want(t, "both a file and its own", own, ranged("/f", op, c.e), c.met, c.met)
		}
	}
}

// P10.1: a package obsoletes what one of its Obsoletes names, by its own name alone.
func TestObsoletes(t *testing.T) {
	q := plain() // a 1-1
	q.Provides, q.Files = []api.Dep{named("b"), ranged("c", api.Equal, version("1", "1"))}, []string{"/f"}
	q.Obsoletes = []api.Dep{named("vim")}
	for s, obsolete := range map[string]bool{
		"a": true, "a = 1": true, "a = 1-1": true, "a = 1-2": false, "a < 1": false, "a < 1-2": true, "a <= 1": true, "a <= 0": false, "a > 1": false, "a > 1~rc": true, "a >= 1": true, "a >= 1-2": false, "a < 1:0": true, "a > 1:0": false,
		"b": false, "c": false, "c = 1-1": false, "/f": false, "A": false, "aa": false, "vim": false,
	} {
		beside := []api.Dep{named("x"), named("b"), ranged("a", api.Equal, version("7", "7")), ranged("x", api.Equal, q.EVR)}
		for i := range 5 {
			p := ordinary()
			p.Obsoletes = slices.Insert(slices.Clone(beside), i, read(t, s))
			if pkg.Obsoletes(p, q) != obsolete {
				t.Errorf("Obsoletes %s, at %d: %v", s, i, !obsolete)
			}
		}
		p := ordinary()
		p.Obsoletes = []api.Dep{read(t, s)}
		if pkg.Obsoletes(p, q) != obsolete {
			t.Errorf("Obsoletes %s: %v", s, !obsolete)
		}
		if !pkg.Obsoletes(q, p) {
			t.Error("the other way round")
		}
	}
}

// P10.1: the Ops of Obsoletes, bit by bit; a package without Obsoletes; one that obsoletes its own name.
func TestObsoletesOps(t *testing.T) {
	p, q := ordinary(), plain()
	for n := range 256 {
		op := uint8(n)
		for e, side := range map[api.EVR]uint8{q.EVR: api.Equal, version("0", ""): api.Greater, version("2", ""): api.Less} {
			p.Obsoletes = []api.Dep{ranged("a", op, e)}
			if want := op%8 == 0 || op&side != 0; pkg.Obsoletes(p, q) != want {
				t.Errorf("Obsoletes a, Op %d, %v: %v", op, e, !want)
			}
		}
	}
	p.Obsoletes, p.Provides = nil, []api.Dep{named("a")}
	p.Conflicts = []api.Rich{atom("a")}
	if pkg.Obsoletes(p, q) || pkg.Obsoletes(q, p) || pkg.Obsoletes(p, p) {
		t.Error("obsoletes another package without Obsoletes")
	}
	q.Obsoletes = []api.Dep{ranged("a", atMost, q.EVR)}
	if !pkg.Obsoletes(q, q) || !pkg.Obsoletes(q, plain()) {
		t.Error("does not obsolete its own name")
	}
	q.EVR.Rel = "2"
	if pkg.Obsoletes(q, q) || !pkg.Obsoletes(q, plain()) {
		t.Error("its own name, of a lower EVR")
	}
	if !pkg.Obsoletes(api.Package{Obsoletes: []api.Dep{{}}}, api.Package{}) || pkg.Obsoletes(api.Package{}, api.Package{}) {
		t.Error("nothing obsoletes nothing")
	}
}

// P10.1: held against what is found by other means, for many packages and dependencies, valid ones and others.
func TestProvidesAny(t *testing.T) {
	var d dice
	n := map[string]int{}
	count := func(what string, got bool) {
		if got {
			n[what]++
		} else {
			n["not "+what]++
		}
	}
	last := plain()
	eachAny(20000, func(p api.Package) {
		for range 10 {
			asked := d.anyDep()
			want(t, "any", p, asked, providesBy(p, asked), namedBy(p, asked))
			count("provides", providesBy(p, asked))
			count("named", namedBy(p, asked))
		}
		if pkg.Obsoletes(p, last) != obsoletesBy(p, last) {
			t.Errorf("Obsoletes(%v, %v): %v", p, last, !obsoletesBy(p, last))
		}
		count("obsoletes", obsoletesBy(p, last))
		last = p
	})
	for _, what := range []string{"provides", "named", "obsoletes"} {
		if n[what] < 3000 || n["not "+what] < 3000 {
			t.Errorf("%s: %v: too few", what, n)
		}
	}
}

// Limits: very long texts and lists, though they are far from valid.
func TestProvidesOfLarge(t *testing.T) {
	const many = 1 << 17
	name := strings.Repeat("x", 1<<20)
	p := api.Package{Name: name + "y", EVR: version(name, name), Provides: slices.Repeat([]api.Dep{named("b")}, many), Files: slices.Repeat([]string{"/f"}, many), Obsoletes: slices.Repeat([]api.Dep{named("b")}, many)}
	p.Provides = append(p.Provides, ranged(name, api.Equal, version(name, "")))
	p.Files = append(p.Files, "/"+name)
	p.Obsoletes = append(p.Obsoletes, named(name+"y"))
	want(t, "large", p, pkg.Own(p), true, true)
	want(t, "large", p, named(name), true, false)
	want(t, "large", p, ranged(name, api.Less, version(name, "")), false, false)
	want(t, "large", p, named("/"+name), true, false)
	want(t, "large", p, named("/"+name+"y"), false, false)
	if !pkg.Obsoletes(p, p) || pkg.Obsoletes(p, plain()) {
		t.Error("Obsoletes of what is large")
	}
}
