package codec_test

import (
	"math"
	"slices"
	"testing"

	"chandlery/api"
	"chandlery/codec"
	"chandlery/pkg"
)

// wantCheck asks for what Check tells of data, and that Encode refuses them likewise, or writes them.
func wantCheck(t *testing.T, what string, d codec.Data, want api.Errno) {
	t.Helper()
	if e := codec.Check(d); e != want {
		t.Errorf("%s: Check: %d, want %d", what, e, want)
	}
	s, e := codec.Encode(d)
	if e != want {
		t.Errorf("%s: Encode: %d, want %d", what, e, want)
	}
	if e == api.OK && s != bytesBy(d) || e != api.OK && s != "" {
		t.Errorf("%s: Encode: %.200q with %d", what, s, e)
	}
}

// P11.1: ordinary data are valid, and so are those of which each part is as great as may be.
func TestCheckOrdinary(t *testing.T) {
	for _, d := range []codec.Data{{}, {Repos: repos(1)}, {Installed: several(1)}, mixed(), {Repos: []api.Repo{repo(full())}}, {Installed: []api.Package{full(), full()}}} {
		wantCheck(t, "ordinary", d, api.OK)
		wantCheck(t, "with empty lists", emptied(d), api.OK)
	}
	same := ordinary()
	wantCheck(t, "one package several times", codec.Data{Repos: []api.Repo{repo(same, same), repo(same)}, Installed: []api.Package{same, same}}, api.OK)
}

// counted tells whether there is an error if a count is beyond the most.
func counted(n, most int) api.Errno {
	if n > most {
		return api.ErrTooLarge
	}
	return api.OK
}

// P11.1: just as many repositories as there may be, and one more.
func TestCheckRepos(t *testing.T) {
	for n := range 20 {
		wantCheck(t, "repositories", codec.Data{Repos: repos(n)}, counted(n, 16))
		l := repos(n)
		for i := range l {
			l[i] = api.Repo{Priority: i, Packages: several(i % 3)}
		}
		wantCheck(t, "repositories with packages", codec.Data{Repos: l, Installed: several(n)}, counted(n, 16))
	}
	wantCheck(t, "very many repositories", codec.Data{Repos: repos(1 << 20)}, api.ErrTooLarge)
	wantCheck(t, "repositories behind the end", codec.Data{Repos: repos(17)[:16]}, api.OK)
}

// P11.1: just as many packages of all as there may be, and one more, wherever they are.
func TestCheckPackages(t *testing.T) {
	for _, n := range []int{255, 256, 257, 258, 300} {
		want := counted(n, 256)
		wantCheck(t, "packages of one repository", codec.Data{Repos: []api.Repo{repo(several(n)...)}}, want)
		wantCheck(t, "packages of the last repository", codec.Data{Repos: []api.Repo{repo(), repo(), repo(several(n)...)}}, want)
		wantCheck(t, "installed packages", codec.Data{Installed: several(n)}, want)
		wantCheck(t, "packages of two repositories", codec.Data{Repos: []api.Repo{repo(several(n - 100)...), repo(several(100)...)}}, want)
		wantCheck(t, "packages of a repository and one installed", codec.Data{Repos: []api.Repo{repo(several(n - 1)...)}, Installed: several(1)}, want)
		wantCheck(t, "installed packages and one of a repository", codec.Data{Repos: []api.Repo{repo(several(1)...)}, Installed: several(n - 1)}, want)
		l := repos(16)
		for i := range l {
			l[i].Packages = several(15)
		}
		wantCheck(t, "packages of all repositories, and installed ones", codec.Data{Repos: l, Installed: several(n - 240)}, want)
	}
	wantCheck(t, "very many packages", codec.Data{Installed: several(1 << 17)}, api.ErrTooLarge)
	wantCheck(t, "packages behind the end", codec.Data{Repos: []api.Repo{repo(several(300)[:200]...)}, Installed: several(300)[:56]}, api.OK)
}

// P11.1: each Priority at the ends of its range, and one beyond them, whichever repository it is of.
func TestCheckPriorities(t *testing.T) {
	for priority, want := range map[int]api.Errno{0: api.OK, 1: api.OK, 500: api.OK, 1023: api.OK, 1024: api.OK, 1025: api.ErrRange, -1: api.ErrRange, math.MaxInt: api.ErrRange, math.MinInt: api.ErrRange, 1 << 32: api.ErrRange, -1024: api.ErrRange} {
		for n := range 16 {
			for i := range n {
				l := repos(n)
				l[i].Priority = priority
				wantCheck(t, "a Priority", codec.Data{Repos: l}, want)
				l[i].Packages = several(2)
				wantCheck(t, "a Priority", codec.Data{Repos: l, Installed: several(2)}, want)
			}
		}
	}
}

// invalid are packages each of which is invalid by one part alone.
func invalid() map[string]api.Package {
	l := map[string]api.Package{"nothing": {}}
	change := func(name string, change func(*api.Package)) {
		p := ordinary()
		change(&p)
		l[name] = p
	}
	change("a Name", func(p *api.Package) { p.Name = "and" })
	change("a Name of a file", func(p *api.Package) { p.Name = "/a" })
	change("a Name without bytes", func(p *api.Package) { p.Name = "" })
	change("a Ver", func(p *api.Package) { p.EVR.Ver = "1-1" })
	change("no Ver", func(p *api.Package) { p.EVR.Ver = "" })
	change("no Rel", func(p *api.Package) { p.EVR.Rel = "" })
	change("a Provides", func(p *api.Package) { p.Provides[1].Name = "a b" })
	change("an Op", func(p *api.Package) { p.Provides[1].Op = 5 })
	change("an Obsoletes", func(p *api.Package) { p.Obsoletes[0].Name = "/a" })
	change("a Requires", func(p *api.Package) { p.Requires[0].Dep.Name = "else" })
	change("a Conflicts", func(p *api.Package) { p.Conflicts[0] = of(api.If, atom("a"), atom("b")) })
	change("a Recommends", func(p *api.Package) { p.Recommends[0].Args[0].Dep.Name = "" })
	change("a Supplements", func(p *api.Package) { p.Supplements[0] = of(api.Unless, atom("a"), atom("b")) })
	change("a Suggests", func(p *api.Package) { p.Suggests[0].Dep.EVR.Rel = " " })
	change("an Enhances", func(p *api.Package) { p.Enhances[0].Args = append(p.Enhances[0].Args, atom("c")) })
	change("too many parts", func(p *api.Package) {
		p.Requires[1] = of(api.Or, slices.Repeat([]api.Rich{atom("c")}, api.MaxNodes)...)
	})
	change("a With of an If", func(p *api.Package) { p.Requires[1].Args[1].Args[1] = of(api.If, atom("a"), atom("b")) })
	change("a file", func(p *api.Package) { p.Files[0] = "a" })
	change("files that fall", func(p *api.Package) { slices.Reverse(p.Files) })
	change("a file twice", func(p *api.Package) { p.Files[1] = p.Files[0] })
	return l
}

// unwritable are packages that are invalid, and whose bytes would be, too: an item is out of its range.
func unwritable() map[string]api.Package {
	l := map[string]api.Package{}
	change := func(name string, change func(*api.Package)) {
		p := ordinary()
		change(&p)
		l[name] = p
	}
	change("a long Name", func(p *api.Package) { p.Name = longest + "x" })
	change("an Epoch below 0", func(p *api.Package) { p.EVR.Epoch = -1 })
	change("a great Epoch", func(p *api.Package) { p.EVR.Epoch = api.MaxEpoch + 1 })
	change("an Arch", func(p *api.Package) { p.Arch = 5 })
	change("no Arch", func(p *api.Package) { p.Arch = 0 })
	change("a long Vendor", func(p *api.Package) { p.Vendor = longest + "x" })
	change("an Op", func(p *api.Package) { p.Provides[1].Op = 7 })
	change("an EVR with Any", func(p *api.Package) { p.Provides[0].EVR.Ver = "1" })
	change("a Dep of an And", func(p *api.Package) { p.Recommends[0].Dep.Name = "a" })
	change("Args of an Atom", func(p *api.Package) { p.Requires[0].Args = []api.Rich{atom("a"), atom("b")} })
	change("a Kind", func(p *api.Package) { p.Requires[1].Kind = 8 })
	change("no Kind", func(p *api.Package) { p.Requires[0].Kind = 0 })
	change("one Arg", func(p *api.Package) { p.Enhances[0].Args = p.Enhances[0].Args[:1] })
	change("no Args", func(p *api.Package) { p.Enhances[0].Args = nil })
	change("what is too deep", func(p *api.Package) { p.Supplements[0] = deep(api.MaxNest+1, true) })
	change("too many Files", func(p *api.Package) { p.Files = files(33) })
	for _, list := range depLists {
		change("too many "+list.name, func(p *api.Package) { *list.of(p) = slices.Repeat([]api.Dep{named("b")}, 33) })
	}
	for _, list := range richLists {
		change("too many "+list.name, func(p *api.Package) { *list.of(p) = slices.Repeat([]api.Rich{atom("b")}, 33) })
	}
	return l
}

// eachPlaced calls f with data in which a package stands, and how many others are ahead of it: in repositories, and among those that are installed.
func eachPlaced(p api.Package, f func(codec.Data, int)) {
	for place := range 10 {
		l := several(10)
		l[place] = p
		f(codec.Data{Repos: []api.Repo{repo(l[:2]...), repo(), repo(l[2]), repo(l[3:7]...)}, Installed: l[7:]}, place)
	}
}

// P11.1: each package is valid, wherever it is.
func TestCheckEachPackage(t *testing.T) {
	for _, l := range []map[string]api.Package{invalid(), unwritable()} {
		for name, p := range l {
			if pkg.May(p) {
				t.Errorf("%s: valid", name)
			}
			eachPlaced(p, func(d codec.Data, _ int) { wantCheck(t, name, d, api.ErrForm) })
		}
	}
	eachPlaced(ordinary(), func(d codec.Data, _ int) { wantCheck(t, "a valid one", d, api.OK) })
	behind := append(several(2), api.Package{})[:2]
	wantCheck(t, "an invalid one behind the end", codec.Data{Repos: []api.Repo{repo(behind...)}, Installed: behind}, api.OK)
}

// P11.1: of several errors the first one, in the order of the chapter.
func TestCheckOrder(t *testing.T) {
	wrong := []api.Package{{}}
	many := []api.Repo{repo(several(256)...), repo(several(1)...)}
	for faults, want := range map[string]struct {
		d codec.Data
		e api.Errno
	}{
		"many repositories, a Priority":             {codec.Data{Repos: append(repos(16), api.Repo{Priority: -1})}, api.ErrTooLarge},
		"a Priority, many repositories":             {codec.Data{Repos: append([]api.Repo{{Priority: -1}}, repos(16)...)}, api.ErrTooLarge},
		"many repositories, a package":              {codec.Data{Repos: repos(17), Installed: wrong}, api.ErrTooLarge},
		"many packages, a Priority":                 {codec.Data{Repos: append(many, api.Repo{Priority: 1025})}, api.ErrTooLarge},
		"a Priority, many packages":                 {codec.Data{Repos: append([]api.Repo{{Priority: 1025}}, many...)}, api.ErrTooLarge},
		"a package, many packages":                  {codec.Data{Repos: []api.Repo{repo(wrong...), repo(several(255)...)}, Installed: several(1)}, api.ErrTooLarge},
		"many packages, a package":                  {codec.Data{Repos: many, Installed: wrong}, api.ErrTooLarge},
		"many repositories and packages":            {codec.Data{Repos: append(repos(16), many...), Installed: several(3)}, api.ErrTooLarge},
		"everything":                                {codec.Data{Repos: append(append(repos(16), many...), api.Repo{Priority: -1, Packages: wrong}), Installed: wrong}, api.ErrTooLarge},
		"a Priority, a package":                     {codec.Data{Repos: []api.Repo{{Priority: -1}, repo(wrong...)}}, api.ErrRange},
		"a package, a Priority":                     {codec.Data{Repos: []api.Repo{repo(wrong...), {Priority: 1025}}}, api.ErrRange},
		"a Priority, a package of that one":         {codec.Data{Repos: []api.Repo{{Priority: 1025, Packages: wrong}}}, api.ErrRange},
		"a Priority, an installed package":          {codec.Data{Repos: []api.Repo{{Priority: -1}}, Installed: wrong}, api.ErrRange},
		"two packages":                              {codec.Data{Repos: []api.Repo{repo(wrong...)}, Installed: wrong}, api.ErrForm},
		"as much as may be, a Priority, a package":  {codec.Data{Repos: append(repos(15), api.Repo{Priority: -1, Packages: several(255)}), Installed: wrong}, api.ErrRange},
		"as much as may be, the last one is wrong":  {codec.Data{Repos: append(repos(15), repo(several(255)...)), Installed: wrong}, api.ErrForm},
		"as much as may be, the first one is wrong": {codec.Data{Repos: append([]api.Repo{repo(wrong...)}, repos(15)...), Installed: several(255)}, api.ErrForm},
	} {
		wantCheck(t, faults, want.d, want.e)
	}
}

// checkBy is what Check tells, found by other means than the program's: from the last of its errors to the first.
func checkBy(d codec.Data) api.Errno {
	e, n := api.OK, 0
	all := append(slices.Clone(d.Repos), api.Repo{Packages: d.Installed})
	for _, repo := range all {
		for _, p := range repo.Packages {
			n++
			if !pkg.May(p) {
				e = api.ErrForm
			}
		}
	}
	for _, repo := range all {
		if min(max(repo.Priority, 0), 1024) != repo.Priority {
			e = api.ErrRange
		}
	}
	if len(all) > 17 || n > 256 {
		e = api.ErrTooLarge
	}
	return e
}

// P11.1: held against what is found by other means, for data that are valid, and such as differ from these in one part alone.
func TestCheckAny(t *testing.T) {
	t.Parallel()
	n := map[api.Errno]int{}
	check := func(name string, d codec.Data) {
		want := checkBy(d)
		n[want]++
		wantCheck(t, name, d, want)
	}
	for _, d := range small() {
		check("small", d)
		eachAltered(d, check)
	}
	var die dice
	for range 1500 {
		d := die.data()
		check("grown", d)
		for i := range d.Repos {
			d.Repos[i].Priority = die.roll(1200)
		}
		check("with other Priorities", d)
		d.Installed = append(d.Installed, die.pkg())
		if die.roll(3) == 0 {
			d.Repos = append(d.Repos, repo(several(250+die.roll(10))...))
		}
		check("with more packages", d)
	}
	for _, e := range []api.Errno{api.OK, api.ErrTooLarge, api.ErrRange, api.ErrForm} {
		if n[e] < 100 {
			t.Errorf("%d: %d times: too few", e, n[e])
		}
	}
}

// R1: what contains itself, or is far too deep, is refused, and that soon.
func TestCheckEndless(t *testing.T) {
	self := of(api.And, make([]api.Rich, 2)...)
	self.Args[0], self.Args[1] = self, self
	far := deep(1<<16-1, true)
	for _, list := range richLists {
		for _, r := range []api.Rich{self, far} {
			p := called("a")
			*list.of(&p) = []api.Rich{atom("b"), r}
			for _, d := range []codec.Data{{Installed: []api.Package{p}}, {Repos: []api.Repo{repo(p)}}} {
				if _, e := codec.Encode(d); e != api.ErrForm || codec.Check(d) != api.ErrForm {
					t.Errorf("%s without end: %d", list.name, e)
				}
			}
		}
	}
}
