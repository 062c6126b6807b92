package pool_test

import (
	"slices"
	"strconv"
	"strings"
	"testing"

	"chandlery/api"
	"chandlery/pool"
)

// P12.1, P12.2: the chapter's example.
func TestExample(t *testing.T) {
	x, e := pool.New([]api.Repo{repo(5, called("b", "c")...), repo(7, called("a")...)}, called("a"))
	if e != api.OK || x.Count() != 4 || x.Installed() != 1 {
		t.Fatalf("New: %d; Count: %d, Installed: %d", e, x.Count(), x.Installed())
	}
	if p, e := x.Package(2); p.Name != "c" || e != api.OK || x.Repo(2) != 0 || x.Priority(2) != 5 {
		t.Errorf("2: %v, %d, of %d, with %d", p, e, x.Repo(2), x.Priority(2))
	}
	if l := x.Named("a"); !slices.Equal(l, []int{0, 3}) {
		t.Errorf("Named: %v", l)
	}
	if x.Repo(0) != -1 || x.Priority(0) != 1025 || x.Repo(1) != 0 || x.Repo(3) != 1 || x.Priority(3) != 7 {
		t.Error("Repo or Priority")
	}
	if l := x.Names(); !slices.Equal(l, []string{"a", "b", "c"}) {
		t.Errorf("Names: %q", l)
	}
}

// P12.1: no packages, no repositories, repositories of none, lists that there are not, and empty ones.
func TestNone(t *testing.T) {
	for _, repos := range [][]api.Repo{nil, {}, {{}}, {repo(3)}, {{Packages: []api.Package{}}, {}, {Priority: api.MaxPriority}}, make([]api.Repo, api.MaxRepos)} {
		for _, installed := range [][]api.Package{nil, {}} {
			x := wantPool(t, "nothing", input{repos, installed})
			if x.Count() != 0 || x.Installed() != 0 || len(x.Names()) != 0 {
				t.Errorf("of nothing: %d, %d, %q", x.Count(), x.Installed(), x.Names())
			}
		}
		wantPool(t, "installed ones alone", input{repos, called("a", "b")})
		repos = append(slices.Clone(repos), repo(1, called("c")...))
		if len(repos) <= api.MaxRepos {
			wantPool(t, "one repository of some", input{repos, nil})
		}
	}
}

// P12.1, P12.2: ordinary repositories and installed packages.
func TestOrdinary(t *testing.T) {
	for i, in := range some() {
		wantPool(t, "given ones, number "+strconv.Itoa(i), in)
	}
	var d dice
	packages := 0
	for range 2000 {
		in := d.input()
		packages += len(in.entries())
		wantPool(t, "grown ones", in)
	}
	if packages < 5000 {
		t.Errorf("%d packages: too few", packages)
	}
}

// P12.1: just as many repositories as there may be, and more.
func TestRepos(t *testing.T) {
	for n := range 40 {
		in := input{installed: called("a")}
		for i := range n {
			in.repos = append(in.repos, repo(i, several("p", i%3)...))
		}
		if n > 16 {
			wantRefused(t, "too many repositories", in, api.ErrTooLarge)
			wantRefused(t, "too many repositories of none", input{repos: make([]api.Repo, n)}, api.ErrTooLarge)
		} else {
			wantPool(t, "repositories", in)
		}
	}
	wantRefused(t, "far too many repositories", input{repos: make([]api.Repo, 1<<20)}, api.ErrTooLarge)
}

// spread puts so many packages over installed ones and repositories, in several ways.
func spread(n int) []input {
	all := several("p", n)
	ways := []input{
		{installed: all},
		{repos: []api.Repo{repo(1, all...)}},
		{repos: []api.Repo{{}, repo(1, all...), {}}},
		{repos: []api.Repo{repo(2, all[1:]...)}, installed: all[:1]},
		{repos: []api.Repo{repo(2, all[n-1:]...)}, installed: all[:n-1]},
		{repos: []api.Repo{repo(2, all[:n/2]...), repo(1, all[n/2:]...)}},
		{repos: []api.Repo{repo(2, all[:n-1]...), repo(1, all[n-1:]...)}},
	}
	each := input{installed: all[:n%15]}
	for i := range 15 {
		first := n%15 + i*(n/15)
		each.repos = append(each.repos, repo(i, all[first:first+n/15]...))
	}
	return append(ways, each)
}

// P12.1: just as many packages of all as there may be, and more, wherever they are.
func TestPackages(t *testing.T) {
	for _, n := range []int{100, 255, 256} {
		for _, in := range spread(n) {
			x, e := pool.New(in.repos, in.installed)
			if e != api.OK {
				t.Fatalf("%d packages: %d", n, e)
			}
			wantEntries(t, "packages", x, in.entries())
			wantNone(t, "packages", x)
		}
	}
	for _, n := range []int{257, 258, 300, 512, 1 << 16} {
		for _, in := range spread(n) {
			wantRefused(t, "too many packages", in, api.ErrTooLarge)
		}
	}
	same := slices.Repeat(called("a"), 257)
	wantRefused(t, "too many of one name", input{installed: same}, api.ErrTooLarge)
	wantPool(t, "just as many of one name", input{repos: []api.Repo{repo(1, same[:100]...)}, installed: same[:156]})
}

// P12.1: each Priority at the ends of its range, and beyond, whichever repository has it.
func TestPriorities(t *testing.T) {
	for _, n := range []int{1, 2, 3, api.MaxRepos} {
		for i := range n {
			for _, packages := range [][]api.Package{nil, called("a", "b")} {
				repos := slices.Repeat([]api.Repo{repo(4, called("c")...)}, n)
				for _, priority := range []int{0, 1, 2, 127, 1023, 1024} {
					repos[i] = repo(priority, packages...)
					wantPool(t, "in range", input{repos, called("d")})
				}
				for _, priority := range []int{-1, -2, -1024, -1 << 63, 1025, 1026, 2048, 1 << 32, 1<<63 - 1} {
					repos[i] = repo(priority, packages...)
					wantRefused(t, "out of range", input{repos, called("d")}, api.ErrForm)
					wantRefused(t, "out of range, nothing installed", input{repos, nil}, api.ErrForm)
				}
			}
		}
	}
}

// endless is a rich dependency that contains itself.
func endless() api.Rich {
	r := of(api.And, atom("a"), atom("b"))
	r.Args[1] = of(api.And, atom("c"), atom("d"))
	r.Args[1].Args = r.Args
	return r
}

// invalid are packages each of which has one fault alone.
func invalid() map[string]api.Package {
	l := map[string]api.Package{}
	with := func(what string, spoil func(*api.Package)) {
		p := ordinary()
		spoil(&p)
		l[what] = p
	}
	l["nothing at all"] = api.Package{}
	with("no Name", func(p *api.Package) { p.Name = "" })
	with("a word", func(p *api.Package) { p.Name = "if" })
	with("a file's Name", func(p *api.Package) { p.Name = "/usr/bin/vi" })
	with("a long Name", func(p *api.Package) { p.Name = longest + "x" })
	with("an Epoch below", func(p *api.Package) { p.EVR.Epoch = -1 })
	with("an Epoch above", func(p *api.Package) { p.EVR.Epoch = api.MaxEpoch + 1 })
	with("no Ver", func(p *api.Package) { p.EVR.Ver = "" })
	with("no Rel", func(p *api.Package) { p.EVR.Rel = "" })
	with("no Arch", func(p *api.Package) { p.Arch = 0 })
	with("an Arch that there is not", func(p *api.Package) { p.Arch = 5 })
	with("a long Vendor", func(p *api.Package) { p.Vendor = longest + "x" })
	with("Provides", func(p *api.Package) { p.Provides[1].Op = 8 })
	with("Obsoletes", func(p *api.Package) { p.Obsoletes[0].EVR.Ver = "" })
	with("Requires", func(p *api.Package) { p.Requires[1].Args[1].Kind = 9 })
	with("If in Conflicts", func(p *api.Package) { p.Conflicts[0] = of(api.If, atom("a"), atom("b")) })
	with("Recommends", func(p *api.Package) { p.Recommends[0].Args = nil })
	with("Unless in Supplements", func(p *api.Package) { p.Supplements[0].Kind = api.Unless })
	with("If in Suggests", func(p *api.Package) { p.Suggests[0] = of(api.With, atom("a"), of(api.If, atom("b"), atom("c"))) })
	with("If in Enhances", func(p *api.Package) { p.Enhances[0].Kind = api.If })
	with("one that contains itself", func(p *api.Package) { p.Requires = append(p.Requires, endless()) })
	with("Files", func(p *api.Package) { slices.Reverse(p.Files) })
	with("too many Files", func(p *api.Package) {
		p.Files = nil
		for i := range api.MaxFiles + 1 {
			p.Files = append(p.Files, "/"+strconv.Itoa(100+i))
		}
	})
	with("too many Provides", func(p *api.Package) { p.Provides = slices.Repeat([]api.Dep{named("a")}, api.MaxDeps+1) })
	return l
}

// P12.1: one invalid package among others that are valid, whatever its fault is and wherever it is.
func TestInvalid(t *testing.T) {
	for what, p := range invalid() {
		good := input{[]api.Repo{repo(1, called("a", "b")...), {}, repo(2, called("c")...)}, called("d", "e")}
		wantPool(t, "before", good)
		for i := range 3 {
			in := good.copy()
			in.installed = slices.Insert(in.installed, i, p)
			wantRefused(t, what+", installed", in, api.ErrForm)
		}
		for i, r := range good.repos {
			for j := range len(r.Packages) + 1 {
				in := good.copy()
				in.repos[i].Packages = slices.Insert(in.repos[i].Packages, j, p)
				wantRefused(t, what+", in a repository", in, api.ErrForm)
			}
		}
		wantRefused(t, what+", alone", input{installed: []api.Package{p}}, api.ErrForm)
		wantRefused(t, what+", alone in a repository", input{repos: []api.Repo{repo(1, p)}}, api.ErrForm)
		wantRefused(t, what+", and many others", input{installed: append(several("p", 255), p)}, api.ErrForm)
	}
}

// P12.1: of two errors it is the first one of the table, wherever they are.
func TestTwoErrors(t *testing.T) {
	bad := at("if", "1")
	most := append(several("p", 255), bad)
	for _, in := range []input{
		{make([]api.Repo, 17), []api.Package{bad}},
		{append(make([]api.Repo, 16), repo(-1)), nil},
		{append([]api.Repo{repo(1025, bad)}, make([]api.Repo, 16)...), nil},
		{append(make([]api.Repo, 16), repo(0, bad)), nil},
		{slices.Repeat([]api.Repo{repo(-1, several("p", 16)...)}, 17), nil},
		{nil, append(several("p", 256), bad)},
		{nil, append([]api.Package{bad}, several("p", 256)...)},
		{[]api.Repo{repo(0, bad)}, several("p", 256)},
		{[]api.Repo{repo(0, several("p", 256)...)}, []api.Package{bad}},
		{[]api.Repo{repo(0, called("a")...), repo(-1)}, several("p", 256)},
		{[]api.Repo{repo(1025, bad), repo(0, several("p", 256)...)}, []api.Package{bad}},
		{slices.Repeat([]api.Repo{repo(1025, slices.Repeat([]api.Package{bad}, 17)...)}, 16), nil},
	} {
		wantRefused(t, "too large, and invalid", in, api.ErrTooLarge)
	}
	for _, in := range []input{
		{[]api.Repo{repo(-1, bad)}, nil},
		{[]api.Repo{repo(-1), repo(0, bad)}, nil},
		{[]api.Repo{repo(0, bad), repo(1025)}, nil},
		{[]api.Repo{repo(-1)}, []api.Package{bad}},
		{slices.Repeat([]api.Repo{repo(-1)}, 16), most},
		{[]api.Repo{repo(0, most...), repo(1025)}, nil},
	} {
		wantRefused(t, "invalid twice", in, api.ErrForm)
	}
}

// P12.1, P12.2: of nil, and of a pool that New has not made.
func TestNil(t *testing.T) {
	for what, x := range map[string]*pool.Pool{"nil": nil, "of no New": new(pool.Pool)} {
		if x.Count() != 0 || x.Installed() != 0 || x.Names() != nil {
			t.Errorf("%s: %d, %d, %q", what, x.Count(), x.Installed(), x.Names())
		}
		if l := x.Named("a"); l != nil {
			t.Errorf("%s: Named: %v", what, l)
		}
		wantNone(t, what, x)
	}
}

// P12.1: a package as great as may be, and many of these.
func TestGreat(t *testing.T) {
	p := ordinary()
	p.Name, p.EVR = longest, api.EVR{Epoch: api.MaxEpoch, Ver: longest, Rel: longest}
	p.Vendor = strings.Repeat("\xff", api.MaxName)
	p.Obsoletes = slices.Repeat([]api.Dep{{Name: longest, Op: api.Greater | api.Equal, EVR: p.EVR}}, api.MaxDeps)
	p.Provides = p.Obsoletes
	p.Requires = slices.Repeat([]api.Rich{of(api.Or, slices.Repeat([]api.Rich{atom(longest)}, api.MaxNodes-1)...)}, api.MaxDeps)
	wantPool(t, "one", input{installed: []api.Package{p}})
	in := input{repos: []api.Repo{repo(api.MaxPriority, slices.Repeat([]api.Package{p}, 128)...)}, installed: slices.Repeat([]api.Package{p}, 128)}
	x, e := pool.New(in.repos, in.installed)
	if e != api.OK {
		t.Fatal(e)
	}
	wantEntries(t, "many", x, in.entries())
	if !x.Obsoletes(0, 255) || !x.Obsoletes(255, 0) || x.Obsoletes(255, 255) {
		t.Error("Obsoletes")
	}
}
