package rules_test

import (
	"slices"
	"strings"
	"testing"

	"chandlery/api"
	"chandlery/ask"
	"chandlery/pool"
	"chandlery/rich"
	"chandlery/rules"
)

// longest is a name of the greatest length.
var longest = strings.Repeat("x", api.MaxName)

// named is a dependency of any version.
func named(name string) api.Dep { return api.Dep{Name: name} }

// ranged is a dependency of a range of versions, of whatever release.
func ranged(name string, op uint8, ver string) api.Dep {
	return api.Dep{Name: name, Op: op, EVR: api.EVR{Ver: ver}}
}

// atom is an Atom of any version.
func atom(name string) api.Rich { return api.Rich{Kind: api.Atom, Dep: named(name)} }

// of is a part with these Args.
func of(kind uint8, args ...api.Rich) api.Rich { return api.Rich{Kind: kind, Args: args} }

// read are the rich dependencies of some texts.
func read(texts ...string) []api.Rich {
	var l []api.Rich
	for _, s := range texts {
		r, _, e := rich.Parse(s)
		if e != api.OK {
			panic(s)
		}
		l = append(l, r)
	}
	return l
}

// at is a valid package of that name and version, with the release 1, that has nothing that it need not have.
func at(name, ver string) api.Package {
	return api.Package{Name: name, EVR: api.EVR{Ver: ver, Rel: "1"}, Arch: api.NoArch}
}

// forArch is a package for an architecture.
func forArch(p api.Package, architecture uint8) api.Package {
	p.Arch = architecture
	return p
}

// providing is a package that provides these, too.
func providing(p api.Package, l ...api.Dep) api.Package {
	p.Provides = l
	return p
}

// over is a package that obsoletes these.
func over(p api.Package, l ...api.Dep) api.Package {
	p.Obsoletes = l
	return p
}

// needing is a package that requires what these texts say.
func needing(p api.Package, texts ...string) api.Package {
	p.Requires = read(texts...)
	return p
}

// against is a package that conflicts with what these texts say.
func against(p api.Package, texts ...string) api.Package {
	p.Conflicts = read(texts...)
	return p
}

// repo is a repository.
func repo(packages ...api.Package) api.Repo { return api.Repo{Packages: packages} }

// job is one of that Kind for a name, of any version.
func job(kind uint8, name string) api.Job { return api.Job{Kind: kind, Dep: named(name)} }

// edit is one of that Kind.
func edit(kind uint8, n int) api.Edit { return api.Edit{Kind: kind, N: n} }

// jobs is a request, of a machine of x86_64, that has these jobs.
func jobs(l ...api.Job) api.Request { return api.Request{Arch: api.X8664, Jobs: l} }

// edited is a request that has these edits, too.
func edited(r api.Request, l ...api.Edit) api.Request {
	r.Edits = append(slices.Clone(r.Edits), l...)
	return r
}

// item is one of that Kind; a Q that is not told is 0.
func item(kind uint8, p int, q ...int) api.Item {
	x := api.Item{Kind: kind, P: p}
	for _, n := range q {
		x.Q = n
	}
	return x
}

// input is what a pool is made of.
type input struct {
	repos     []api.Repo
	installed []api.Package
}

// all are the packages of the pool of an input, by their numbers.
func (in input) all() []api.Package {
	l := slices.Clone(in.installed)
	for _, r := range in.repos {
		l = append(l, r.Packages...)
	}
	return l
}

// asked is what a request asks for over the pool of an input, and that pool.
func asked(t *testing.T, in input, r api.Request) (*ask.Ask, *pool.Pool) {
	t.Helper()
	p, e := pool.New(in.repos, in.installed)
	if e != api.OK {
		t.Fatalf("pool.New(%v): %d", in, e)
	}
	a, e := ask.New(p, r)
	if e != api.OK {
		t.Fatalf("ask.New(%v): %d", r, e)
	}
	return a, p
}

// bookOf is the rule book of an ask.
func bookOf(t *testing.T, a *ask.Ask) *rules.Rules {
	t.Helper()
	r, e := rules.New(a)
	if r == nil || e != api.OK {
		t.Fatalf("New: %v, %d", r, e)
	}
	return r
}

// made is the rule book of a request over the pool of an input.
func made(t *testing.T, in input, r api.Request) *rules.Rules {
	t.Helper()
	a, _ := asked(t, in, r)
	return bookOf(t, a)
}

// wantItems asks for just these items.
func wantItems(t *testing.T, what string, got []api.Item, want ...api.Item) {
	t.Helper()
	if !slices.Equal(got, want) {
		t.Errorf("%s: %v, want %v", what, got, want)
	}
}

// absent are numbers that nothing has of so many.
func absent(count int) []int {
	return []int{-1, -2, -64, -256, -1 << 63, count, count + 1, count + 64, 255 + count, 256 + count, 1 << 32, 1<<63 - 1}
}

// states are all lists of numbers below count, each in increasing order.
func states(count int) [][]int {
	l := [][]int{nil}
	for n := range count {
		for _, state := range l {
			l = append(l, append(slices.Clone(state), n))
		}
	}
	return l
}

// numbers are those from a number up to another one, which is not one of them.
func numbers(from, to int) []int {
	var l []int
	for n := from; n < to; n++ {
		l = append(l, n)
	}
	return l
}

// dice are numbers that follow one another by a rule, the same each time.
type dice uint64

// roll is a number from 0 to n-1.
func (d *dice) roll(n int) int {
	*d = *d*6364136223846793005 + 1442695040888963407
	return int(uint64(*d)>>33) % n
}

// pick is one of several.
func pick[T any](d *dice, l ...T) T { return l[d.roll(len(l))] }

// listOf is a list of up to so many elements; more often it is neither short nor long.
func listOf[T any](d *dice, most int, one func() T) []T {
	var l []T
	for range (d.roll(most+1) + d.roll(most+1)) / 2 {
		l = append(l, one())
	}
	return l
}

// name is a name of few.
func (d *dice) name() string { return pick(d, "a", "a", "b", "c", "d", longest) }

// evr is an EVR, one of few; with is its Rel.
func (d *dice) evr(with string) api.EVR {
	return api.EVR{Epoch: pick(d, 0, 0, 0, 0, 1), Ver: pick(d, "1", "2", "3", "1~a", "2.0"), Rel: with}
}

// dep is a valid dependency.
func (d *dice) dep() api.Dep {
	op := pick(d, api.Any, api.Any, api.Less, api.Equal, api.Greater, api.Less|api.Equal, api.Greater|api.Equal)
	switch {
	case d.roll(10) == 0:
		return named(pick(d, "/a", "/b"))
	case op == api.Any:
		return named(d.name())
	}
	return api.Dep{Name: d.name(), Op: op, EVR: d.evr(pick(d, "", "1", "2"))}
}

// grow is a rich dependency of some Kinds, within With and Without of those alone that may be there, of at most so many parts, and so deep.
func (d *dice) grow(parts, depth int, some ...uint8) api.Rich {
	if parts < 3 || depth == 0 {
		return api.Rich{Kind: api.Atom, Dep: d.dep()}
	}
	kind := pick(d, some...)
	n := 2
	switch kind {
	case api.If, api.Unless:
		n += d.roll(min(2, parts-2))
	case api.With, api.Without:
		some = []uint8{api.And, api.Or, api.With, api.Without}
	}
	args := make([]api.Rich, n)
	left := parts - 1 - n
	for i := range args {
		more := d.roll(left + 1)
		left -= more
		args[i] = d.grow(1+more, depth-1, some...)
	}
	return of(kind, args...)
}

// needs is a rich dependency that may be required; small ones are more frequent.
func (d *dice) needs() api.Rich {
	return d.grow(pick(d, 1, 1, 3, 4, 5, 9, api.MaxNodes), pick(d, 1, 2, api.MaxNest), api.And, api.Or, api.Or, api.If, api.Unless, api.With, api.Without)
}

// clash is one that may be a conflict.
func (d *dice) clash() api.Rich {
	return d.grow(pick(d, 1, 1, 3, 4, 5, 9, api.MaxNodes), pick(d, 1, 2, api.MaxNest), api.And, api.Or, api.And, api.Unless, api.With, api.Without)
}

// pkg is a valid package.
func (d *dice) pkg() api.Package {
	p := api.Package{Name: d.name(), EVR: d.evr(pick(d, "1", "2")), Arch: pick(d, api.NoArch, api.X8664, api.X8664, api.I686, api.AArch64), Vendor: pick(d, "", "v", "v")}
	p.Provides = listOf(d, 2, d.dep)
	p.Requires = listOf(d, 2, d.needs)
	p.Conflicts = listOf(d, 1, d.clash)
	if d.roll(4) == 0 {
		p.Obsoletes = listOf(d, 3, d.dep)
	}
	p.Recommends, p.Suggests = listOf(d, 1, d.needs), listOf(d, 1, d.needs)
	p.Supplements, p.Enhances = []api.Rich{atom("a")}, []api.Rich{atom("b"), atom("c")}
	p.Files = pick(d, nil, nil, []string{"/a"}, []string{"/b"}, []string{"/a", "/b"})
	return p
}

// input is a valid one, of up to so many installed packages, and repositories.
func (d *dice) input(most int) input {
	repos := listOf(d, most, func() api.Repo { return repo(listOf(d, 4, d.pkg)...) })
	return input{repos, listOf(d, most, d.pkg)}
}

// job is a valid one.
func (d *dice) job() api.Job {
	return api.Job{Kind: pick(d, api.Install, api.Erase, api.Upgrade, api.Sync), Dep: d.dep()}
}

// edit is a valid one, of so many jobs and installed packages; false: there is none.
func (d *dice) edit(jobs, installed int) (api.Edit, bool) {
	kind := pick(d, api.DropJob, api.DropJob, api.AllowErase, api.AllowErase, api.AllowDown, api.AllowArch)
	most := installed
	if kind == api.DropJob {
		most = jobs
	}
	if most == 0 {
		return api.Edit{}, false
	}
	return edit(kind, d.roll(most)), true
}

// request is a valid one over an input.
func (d *dice) request(in input) api.Request {
	r := api.Request{Arch: pick(d, api.X8664, api.X8664, api.I686, api.AArch64), Vendor: d.roll(3) == 0, Budget: d.roll(1000)}
	r.Jobs = listOf(d, 5, d.job)
	for range d.roll(5) {
		if x, ok := d.edit(len(r.Jobs), len(in.installed)); ok {
			r.Edits = append(r.Edits, x)
		}
	}
	return r
}

// state is a list of some of so many packages, in increasing order.
func (d *dice) state(count int) []int {
	most := d.roll(5)
	return slices.DeleteFunc(numbers(0, count), func(int) bool { return d.roll(4) >= most })
}

// states are several ones of so many packages, or all of them, if they are few.
func (d *dice) states(several, count int) [][]int {
	if count <= 5 {
		return states(count)
	}
	var l [][]int
	for range several {
		l = append(l, d.state(count))
	}
	return l
}

// grown calls f with inputs of all sorts, of up to so many installed packages, and with several requests for each.
func grown(inputs, most, each int, f func(d *dice, in input, r api.Request)) {
	d := dice(inputs)
	for _, in := range []input{{}, {repos: []api.Repo{{}, {}}}, {installed: []api.Package{at("a", "1")}}, {repos: []api.Repo{repo(at("a", "1"))}}} {
		f(&d, in, d.request(in))
	}
	for range inputs {
		in := d.input(most)
		for range each {
			f(&d, in, d.request(in))
		}
	}
}
