package pkg_test

import (
	"slices"
	"strings"
	"testing"

	"chandlery/api"
	"chandlery/pkg"
	"chandlery/shape"
)

// bases are valid packages of several sorts.
var bases = []api.Package{plain(), ordinary(), full()}

// wantMay asks for whether a package is valid.
func wantMay(t *testing.T, what string, p api.Package, want bool) {
	t.Helper()
	if pkg.May(p) != want {
		t.Errorf("%.200s: May of %.80s: %v", what, p.Name, !want)
	}
}

// wantChanged asks for whether valid packages of several sorts are valid once they are changed, other than where their lists lie.
func wantChanged(t *testing.T, what string, want bool, change func(*api.Package)) {
	t.Helper()
	for _, p := range bases {
		change(&p)
		wantMay(t, what, p, want)
	}
}

// P10.1: ordinary packages are valid, nothing at all is not.
func TestMayOrdinary(t *testing.T) {
	wantMay(t, "nothing", api.Package{}, false)
	for _, p := range bases {
		wantMay(t, "ordinary", p, true)
		wantMay(t, "with empty lists", emptied(p), true)
	}
}

// P10.1: a package without one of the parts that it must have is invalid.
func TestMayWithout(t *testing.T) {
	wantChanged(t, "without a Name", false, func(p *api.Package) { p.Name = "" })
	wantChanged(t, "without a Ver", false, func(p *api.Package) { p.EVR.Ver = "" })
	wantChanged(t, "without a Rel", false, func(p *api.Package) { p.EVR.Rel = "" })
	wantChanged(t, "without an EVR", false, func(p *api.Package) { p.EVR = api.EVR{} })
	wantChanged(t, "without an Arch", false, func(p *api.Package) { p.Arch = 0 })
	wantChanged(t, "without a Vendor", true, func(p *api.Package) { p.Vendor = "" })
	wantChanged(t, "without an Epoch", true, func(p *api.Package) { p.EVR.Epoch = 0 })
	wantChanged(t, "without Files", true, func(p *api.Package) { p.Files = nil })
	for _, list := range depLists {
		wantChanged(t, "without "+list.name, true, func(p *api.Package) { *list.of(p) = nil })
	}
	for _, list := range richLists {
		wantChanged(t, "without "+list.name, true, func(p *api.Package) { *list.of(p) = nil })
	}
}

// P10.1: a Name is that of no file.
func TestMayNames(t *testing.T) {
	for _, name := range []string{"b", "If", "libstdc++", "x:y", "@a", "a/b", "~", "^", "0", "-", longest} {
		wantChanged(t, "Name "+name, true, func(p *api.Package) { p.Name = name })
	}
	for _, name := range []string{
		"and", "or", "if", "else", "unless", "with", "without",
		"/", "/a", "/usr/bin/vim", "/" + longest[1:], "//",
		longest + "x", "/" + longest, strings.Repeat("x", 1<<20), "a b", " a", "a ", "a\n", "a=1", "(a)", "perl(", "\x00", "\xff", "é", "a,b",
	} {
		wantChanged(t, "Name "+name, false, func(p *api.Package) { p.Name = name })
	}
	for c := range 256 {
		name := string([]byte{'a', byte(c)})
		wantChanged(t, "Name "+name, nameBy(name), func(p *api.Package) { p.Name = name })
	}
}

// P10.1: an EVR is a package's, not a dependency's.
func TestMayEVRs(t *testing.T) {
	for _, e := range []api.EVR{version("1", "1"), version("1.0~rc_1+git^2", "0"), version("x", "y"), version(longest, "1"), version("1", longest), {Epoch: api.MaxEpoch, Ver: "1", Rel: "1"}, {Epoch: 1, Ver: ".", Rel: "~"}} {
		wantChanged(t, "EVR "+e.Ver+"-"+e.Rel, true, func(p *api.Package) { p.EVR = e })
	}
	for _, e := range []api.EVR{
		version("1", ""), version("", "1"), version("", ""), {Epoch: 1}, {Epoch: 7, Ver: "1"},
		{Epoch: -1, Ver: "1", Rel: "1"}, {Epoch: api.MaxEpoch + 1, Ver: "1", Rel: "1"}, {Epoch: -1 << 63, Ver: "1", Rel: "1"}, {Epoch: 1<<63 - 1, Ver: "1", Rel: "1"},
		version("1-1", "1"), version("1", "1-1"), version("1:1", "1"), version("1", "1:1"), version("1 ", "1"), version("1", " 1"), version("\xff", "1"), version("1", "é"), version("1/2", "1"), version("1", "@"),
		version(longest+"x", "1"), version("1", longest+"x"),
	} {
		wantChanged(t, "EVR "+e.Ver+"-"+e.Rel, false, func(p *api.Package) { p.EVR = e })
	}
}

// P10.1: all 256 numbers as architectures.
func TestMayArchs(t *testing.T) {
	for n := range 256 {
		arch := uint8(n)
		want := arch == api.NoArch || arch == api.X8664 || arch == api.I686 || arch == api.AArch64
		wantChanged(t, "an Arch", want, func(p *api.Package) { p.Arch = arch })
	}
}

// P10.1: a Vendor has any bytes, up to MaxName.
func TestMayVendors(t *testing.T) {
	for n := range 70 {
		for _, c := range []string{"v", "/", " ", "\x00", "\xff"} {
			wantChanged(t, "a Vendor", n <= 64, func(p *api.Package) { p.Vendor = strings.Repeat(c, n) })
		}
	}
	for _, vendor := range []string{"if", "and", "(a b)", "/v", "é", strings.Repeat("é", 32)} {
		wantChanged(t, "Vendor "+vendor, true, func(p *api.Package) { p.Vendor = vendor })
	}
	wantChanged(t, "a Vendor of 33 runes", false, func(p *api.Package) { p.Vendor = strings.Repeat("é", 33) })
	wantChanged(t, "a very long Vendor", false, func(p *api.Package) { p.Vendor = strings.Repeat("v", 1<<20) })
}

// placesIn are places in a list of that length: the first ones, one in between, the last one.
func placesIn(n int) []int {
	l := []int{0, 1, n / 2, n - 1}
	l = slices.DeleteFunc(l, func(i int) bool { return i < 0 || i >= n })
	slices.Sort(l)
	return slices.Compact(l)
}

// wantElements asks for whether packages are valid with an element at several places of a list, of several lengths.
func wantElements[T any](t *testing.T, what string, want bool, list func(*api.Package) *[]T, element, beside T) {
	t.Helper()
	for _, n := range []int{1, 2, 3, api.MaxDeps} {
		for _, i := range placesIn(n) {
			l := slices.Repeat([]T{beside}, n)
			l[i] = element
			wantChanged(t, what, want, func(p *api.Package) { *list(p) = l })
		}
	}
}

// wantLengths asks for how long a list may be, if all its elements are valid; and that it is invalid with another one.
func wantLengths[T any](t *testing.T, name string, list func(*api.Package) *[]T, element, wrong T) {
	t.Helper()
	for n := range 40 {
		l := slices.Repeat([]T{element}, n)
		wantChanged(t, name, n <= 32, func(p *api.Package) { *list(p) = l })
		wantChanged(t, name+" behind the end", n <= 32, func(p *api.Package) { *list(p) = append(slices.Clone(l), wrong)[:n] })
	}
	wantChanged(t, "very many "+name, false, func(p *api.Package) { *list(p) = slices.Repeat([]T{element}, 1<<17) })
	wantChanged(t, "very many wrong "+name, false, func(p *api.Package) { *list(p) = slices.Repeat([]T{wrong}, 1<<17) })
}

// P10.1: lists of just the greatest length and of one more.
func TestMayLengths(t *testing.T) {
	for _, list := range depLists {
		wantLengths(t, list.name, list.of, named("b"), api.Dep{})
	}
	for _, list := range richLists {
		wantLengths(t, list.name, list.of, atom("b"), api.Rich{})
	}
	for n := range 40 {
		wantChanged(t, "Files", n <= 32, func(p *api.Package) { p.Files = files(n) })
		wantChanged(t, "Files behind the end", n <= 32, func(p *api.Package) { p.Files = append(files(n), "a")[:n] })
	}
	wantChanged(t, "very many Files", false, func(p *api.Package) { p.Files = slices.Repeat([]string{"/f"}, 1<<17) })
}

// P10.1: each Provides and each Obsoletes is a valid dependency.
func TestMayDeps(t *testing.T) {
	e := version("1", "")
	for _, list := range depLists {
		for _, d := range []api.Dep{named("b"), named("/b"), named(longest), ranged("b", api.Less, e), ranged("b", api.Equal, e), ranged("b", api.Greater, e), ranged("b", api.Less|api.Equal, e), ranged("b", api.Greater|api.Equal, version("1", "1"))} {
			wantElements(t, list.name+" "+d.Name, true, list.of, d, named("c"))
		}
		for _, d := range []api.Dep{
			{}, named("if"), named("b c"), named("("), named(longest + "x"), named("\xff"),
			ranged("/b", api.Equal, e), ranged("b", api.Equal, api.EVR{}), ranged("b", api.Equal, version("", "1")), ranged("", api.Equal, e),
			ranged("b", api.Any, e), ranged("b", api.Any, api.EVR{Epoch: 1}), ranged("b", api.Any, version("", "1")),
			ranged("b", api.Less|api.Greater, e), ranged("b", 7, e), ranged("b", 8, e), ranged("b", 8, api.EVR{}), ranged("b", 255, e),
			ranged("b", api.Equal, api.EVR{Epoch: -1, Ver: "1"}), ranged("b", api.Equal, version("1-1", "")), ranged("b", api.Equal, version(longest+"x", "")),
		} {
			wantElements(t, list.name+" "+d.Name, false, list.of, d, named("c"))
		}
	}
}

// P10.1: each rich dependency is valid at the position of its own list.
func TestMayRich(t *testing.T) {
	deep := atom("b")
	for range api.MaxNest {
		deep = of(api.And, deep, atom("c"))
	}
	wide := of(api.Or, slices.Repeat([]api.Rich{atom("b")}, api.MaxNodes-1)...)
	twice := []api.Rich{atom("b"), atom("c")}
	allowed := map[string][]api.Rich{ // by the last position at which they may be
		"Weak":  {atom("b"), atom("/b"), of(api.And, twice...), of(api.Or, twice...), of(api.With, twice...), of(api.Without, twice...), deep, wide},
		"Clash": {of(api.Unless, twice...), of(api.Unless, atom("b"), atom("c"), atom("d")), of(api.And, atom("b"), of(api.Unless, twice...))},
		"Needs": {of(api.If, twice...), of(api.If, atom("b"), atom("c"), atom("d")), of(api.Or, of(api.If, twice...), atom("b"))},
		"none": {
			{}, {Kind: api.Atom}, {Kind: 8}, {Kind: 255, Dep: named("b")}, atom("if"), atom(longest + "x"),
			{Kind: api.Atom, Dep: ranged("/b", api.Equal, version("1", ""))}, {Kind: api.Atom, Dep: named("b"), Args: twice},
			of(api.And), of(api.And, atom("b")), of(api.Without, atom("b"), atom("c"), atom("d")), {Kind: api.Or, Dep: named("b"), Args: twice},
			of(api.With, atom("b"), of(api.If, twice...)), of(api.Without, of(api.Unless, twice...), atom("b")),
			of(api.And, deep, atom("b")), of(api.Or, append(slices.Clone(wide.Args), atom("b"))...),
		},
	}
	for _, list := range richLists {
		for last, l := range allowed {
			for _, r := range l {
				want := last == "Weak" || last == "Clash" && list.where != shape.Weak || last == "Needs" && list.where == shape.Needs
				wantElements(t, list.name+", of what may be at "+last, want, list.of, r, atom("c"))
			}
		}
	}
}

// P10.1: each of the lists has its own position, whatever stands in the others.
func TestMayPositions(t *testing.T) {
	conditional, exceptional := of(api.If, atom("b"), atom("c")), of(api.Unless, atom("b"), atom("c"))
	p := plain()
	p.Requires = []api.Rich{conditional, exceptional}
	p.Recommends = []api.Rich{exceptional, conditional}
	p.Suggests = []api.Rich{conditional, exceptional}
	p.Conflicts = []api.Rich{exceptional, atom("b")}
	p.Supplements, p.Enhances = []api.Rich{atom("b")}, []api.Rich{atom("c")}
	wantMay(t, "each at its own position", p, true)
	for _, list := range richLists {
		for _, r := range []api.Rich{conditional, exceptional} {
			other := copied(p)
			*list.of(&other) = append(*list.of(&other), r)
			want := list.where == shape.Needs || list.where == shape.Clash && r.Kind == api.Unless
			wantMay(t, "one more of "+list.name, other, want)
		}
	}
}

// P10.1: Files are names of files.
func TestMayFiles(t *testing.T) {
	for _, l := range [][]string{{"/"}, {"/a"}, {"/", "//"}, {"/if"}, {"/a:b@c"}, {"/" + longest[1:]}, {"/a", "/b", "/c"}} {
		wantChanged(t, "Files "+strings.Join(l, " "), true, func(p *api.Package) { p.Files = l })
	}
	for _, file := range []string{"", "a", "b/c", "./b", "/ b", "/b\n", "/b=1", "/\xff", "/é", "/" + longest, " /b", "/(b)", "~", "if"} {
		wantChanged(t, "a file "+file, false, func(p *api.Package) { p.Files = []string{file} })
		wantChanged(t, "the first file "+file, false, func(p *api.Package) { p.Files = []string{file, "/b", "/c"} })
		wantChanged(t, "the last file "+file, false, func(p *api.Package) { p.Files = []string{"/0", "/1", file} })
		between := []string{"/0", file, "/~"}
		slices.Sort(between)
		wantChanged(t, "a file in its row "+file, false, func(p *api.Package) { p.Files = between })
	}
}

// P10.1: each file is above the one before it, by its bytes.
func TestMayFilesRise(t *testing.T) {
	rising := [][]string{{"/B", "/a"}, {"/a", "/aa"}, {"/a-", "/a/b", "/a0"}, {"/10", "/9"}, {"/A", "/Z", "/^", "/_", "/a", "/z", "/~"}, {"/", "/+", "//"}, files(api.MaxFiles)}
	for _, l := range rising {
		wantChanged(t, "Files that rise", true, func(p *api.Package) { p.Files = l })
		for i := 1; i < len(l); i++ {
			other := slices.Clone(l)
			other[i-1], other[i] = l[i], l[i-1]
			wantChanged(t, "Files that fall", false, func(p *api.Package) { p.Files = other })
			other[i-1], other[i] = l[i], l[i]
			wantChanged(t, "a file twice", false, func(p *api.Package) { p.Files = other })
			other[i-1], other[i] = l[i-1], l[0]
			wantChanged(t, "the first file again", false, func(p *api.Package) { p.Files = other })
		}
		down := slices.Clone(l)
		slices.Reverse(down)
		wantChanged(t, "Files that fall", false, func(p *api.Package) { p.Files = down })
	}
}

// P10.1: held against what is found by other means, for many packages.
func TestMayAny(t *testing.T) {
	n := map[bool]int{}
	eachAny(40000, func(p api.Package) {
		want := mayBy(p)
		n[want]++
		if pkg.May(p) != want {
			t.Errorf("May(%v): %v", p, !want)
		}
	})
	if n[true] < 10000 || n[false] < 10000 {
		t.Errorf("%v: too few", n)
	}
	for _, p := range small() {
		eachAltered(p, func(name string, p api.Package) {
			if pkg.May(p) != mayBy(p) {
				t.Errorf("%s altered: May(%v): %v", name, p, !mayBy(p))
			}
		})
	}
}

// R1: a rich dependency that contains itself, or is far too deep, is refused, and that soon.
func TestMayEndless(t *testing.T) {
	self := of(api.And, make([]api.Rich, 2)...)
	self.Args[0], self.Args[1] = self, self
	deep := atom("b")
	for range 1<<16 - 1 {
		deep = of(api.And, deep, atom("c"))
	}
	for _, list := range richLists {
		for _, r := range []api.Rich{self, deep} {
			wantEndless(t, list.of, r)
		}
	}
}

// wantEndless asks for a package with that to be refused, wherever it stands in the list.
func wantEndless(t *testing.T, list func(*api.Package) *[]api.Rich, r api.Rich) {
	t.Helper()
	for i := range 3 {
		p, l := plain(), []api.Rich{atom("b"), atom("c"), atom("d")}
		l[i] = r
		*list(&p) = l
		if pkg.May(p) {
			t.Error("what has no end is valid")
		}
	}
}
