package ask_test

import (
	"slices"
	"strings"
	"testing"

	"chandlery/api"
	"chandlery/ask"
	"chandlery/evr"
	"chandlery/pkg"
	"chandlery/pool"
)

// longest is a name of the greatest length.
var longest = strings.Repeat("x", api.MaxName)

// named is a dependency of any version.
func named(name string) api.Dep { return api.Dep{Name: name} }

// ranged is a dependency of a range of versions, of whatever release.
func ranged(name string, op uint8, ver string) api.Dep {
	return api.Dep{Name: name, Op: op, EVR: api.EVR{Ver: ver}}
}

// at is a valid package of that name and version, with the release 1, that has nothing that it need not have.
func at(name, ver string) api.Package {
	return api.Package{Name: name, EVR: api.EVR{Ver: ver, Rel: "1"}, Arch: api.NoArch}
}

// forArch is a package for an architecture.
func forArch(p api.Package, architecture uint8) api.Package {
	p.Arch = architecture
	return p
}

// from is a package of a vendor.
func from(p api.Package, vendor string) api.Package {
	p.Vendor = vendor
	return p
}

// providing is a package that provides these, too.
func providing(p api.Package, l ...api.Dep) api.Package {
	p.Provides = l
	return p
}

// over is a package that obsoletes these.
func over(p api.Package, l ...api.Dep) api.Package {
	p.Obsoletes = l
	return p
}

// filed is a package that has these files.
func filed(p api.Package, l ...string) api.Package {
	p.Files = l
	return p
}

// repo is a repository.
func repo(packages ...api.Package) api.Repo { return api.Repo{Packages: packages} }

// job is one of that Kind for a name, of any version.
func job(kind uint8, name string) api.Job { return api.Job{Kind: kind, Dep: named(name)} }

// edit is one of that Kind.
func edit(kind uint8, n int) api.Edit { return api.Edit{Kind: kind, N: n} }

// jobs is a request, of a machine of x86_64, that has these jobs.
func jobs(l ...api.Job) api.Request { return api.Request{Arch: api.X8664, Jobs: l} }

// edited is a request that has these edits, too.
func edited(r api.Request, l ...api.Edit) api.Request {
	r.Edits = append(slices.Clone(r.Edits), l...)
	return r
}

// input is what a pool is made of.
type input struct {
	repos     []api.Repo
	installed []api.Package
}

// all are the packages of the pool of an input, by their numbers.
func (in input) all() []api.Package {
	l := slices.Clone(in.installed)
	for _, r := range in.repos {
		l = append(l, r.Packages...)
	}
	return l
}

// poolOf is the pool of an input.
func poolOf(t *testing.T, in input) *pool.Pool {
	t.Helper()
	p, e := pool.New(in.repos, in.installed)
	if e != api.OK {
		t.Fatalf("pool.New(%v): %d", in, e)
	}
	return p
}

// made is what a request asks for over the pool of an input.
func made(t *testing.T, in input, r api.Request) *ask.Ask {
	t.Helper()
	a, e := ask.New(poolOf(t, in), r)
	if a == nil || e != api.OK {
		t.Fatalf("New(%v): %v, %d", r, a, e)
	}
	return a
}

// wantList asks for just this list.
func wantList(t *testing.T, what string, got, want []int) {
	t.Helper()
	if !slices.Equal(got, want) {
		t.Errorf("%s: %v, want %v", what, got, want)
	}
}

// absent are numbers that no package, or job, has of so many.
func absent(count int) []int {
	return []int{-1, -2, -64, -256, -1 << 63, count, count + 1, count + 64, 255 + count, 256 + count, 1 << 32, 1<<63 - 1}
}

// alike are lists that are the same state: in other orders, with repeated numbers, and with ones of no package.
func alike(state []int, count int) [][]int {
	turned := slices.Clone(state)
	slices.Reverse(turned)
	twice := append(slices.Clone(turned), state...)
	strange := append(absent(count), twice...)
	for i, n := range state {
		strange = append(strange, absent(count)[i%len(absent(count))], n)
	}
	return [][]int{state, turned, slices.Repeat(state, 3), twice, strange, append(strange, absent(count)...)}
}

// states are all lists of numbers below count, each in increasing order.
func states(count int) [][]int {
	l := [][]int{nil}
	for n := range count {
		for _, state := range l {
			l = append(l, append(slices.Clone(state), n))
		}
	}
	return l
}

// numbers are those from a number up to another one, which is not one of them.
func numbers(from, to int) []int {
	var l []int
	for n := from; n < to; n++ {
		l = append(l, n)
	}
	return l
}

// dice are numbers that follow one another by a rule, the same each time.
type dice uint64

// roll is a number from 0 to n-1.
func (d *dice) roll(n int) int {
	*d = *d*6364136223846793005 + 1442695040888963407
	return int(uint64(*d)>>33) % n
}

// pick is one of several.
func pick[T any](d *dice, l ...T) T { return l[d.roll(len(l))] }

// listOf is a list of up to so many elements; more often it is neither short nor long.
func listOf[T any](d *dice, most int, one func() T) []T {
	var l []T
	for range (d.roll(most+1) + d.roll(most+1)) / 2 {
		l = append(l, one())
	}
	return l
}

// name is a name of few.
func (d *dice) name() string { return pick(d, "a", "a", "b", "c", longest) }

// evr is an EVR, one of few; with is its Rel.
func (d *dice) evr(with string) api.EVR {
	return api.EVR{Epoch: pick(d, 0, 0, 0, 0, 1), Ver: pick(d, "1", "2", "3", "1~a", "2.0"), Rel: with}
}

// dep is a valid dependency.
func (d *dice) dep() api.Dep {
	op := pick(d, api.Any, api.Any, api.Less, api.Equal, api.Greater, api.Less|api.Equal, api.Greater|api.Equal)
	switch {
	case d.roll(10) == 0:
		return named(pick(d, "/a", "/b"))
	case op == api.Any:
		return named(d.name())
	}
	return api.Dep{Name: d.name(), Op: op, EVR: d.evr(pick(d, "", "1", "2"))}
}

// pkg is a valid package.
func (d *dice) pkg() api.Package {
	p := api.Package{Name: d.name(), EVR: d.evr(pick(d, "1", "2")), Arch: uint8(1 + d.roll(4)), Vendor: pick(d, "", "v", "v", "w")}
	p.Provides = listOf(d, 2, d.dep)
	if d.roll(4) == 0 {
		p.Obsoletes = listOf(d, 2, d.dep)
	}
	p.Files = pick(d, nil, nil, []string{"/a"}, []string{"/b"}, []string{"/a", "/b"})
	return p
}

// input is a valid one.
func (d *dice) input() input {
	repos := listOf(d, 4, func() api.Repo { return repo(listOf(d, 6, d.pkg)...) })
	return input{repos, listOf(d, 8, d.pkg)}
}

// job is a valid one.
func (d *dice) job() api.Job {
	return api.Job{Kind: pick(d, api.Install, api.Erase, api.Upgrade, api.Sync), Dep: d.dep()}
}

// edit is a valid one, of so many jobs and installed packages; false: there is none.
func (d *dice) edit(jobs, installed int) (api.Edit, bool) {
	kind := pick(d, api.DropJob, api.DropJob, api.AllowErase, api.AllowDown, api.AllowArch)
	most := installed
	if kind == api.DropJob {
		most = jobs
	}
	if most == 0 {
		return api.Edit{}, false
	}
	return edit(kind, d.roll(most)), true
}

// request is a valid one over an input.
func (d *dice) request(in input) api.Request {
	r := api.Request{Arch: pick(d, api.X8664, api.X8664, api.I686, api.AArch64), Vendor: d.roll(3) == 0, Budget: d.roll(1000)}
	r.Jobs = listOf(d, 7, d.job)
	for range d.roll(7) {
		if x, ok := d.edit(len(r.Jobs), len(in.installed)); ok {
			r.Edits = append(r.Edits, x)
		}
	}
	return r
}

// state is a list of some of so many packages; now and then there are numbers of no package, and repeated ones.
func (d *dice) state(count int) []int {
	var l []int
	most := d.roll(5)
	for n := range count {
		if d.roll(4) < most {
			l = append(l, n)
		}
	}
	if d.roll(3) > 0 {
		return l
	}
	for range d.roll(6) {
		l = slices.Insert(l, d.roll(len(l)+1), pick(d, append(absent(count), l...)...))
	}
	return l
}

// grown calls f with inputs of all sorts, and with several requests for each.
func grown(inputs, each int, f func(d *dice, in input, r api.Request)) {
	d := dice(inputs)
	for _, in := range []input{{}, {repos: []api.Repo{{}, {}}}, {installed: []api.Package{at("a", "1")}}, {repos: []api.Repo{repo(at("a", "1"))}}} {
		f(&d, in, d.request(in))
	}
	for range inputs {
		in := d.input()
		for range each {
			f(&d, in, d.request(in))
		}
	}
}

// words tell what is asked for by the words of S3, S4 and the chapter, over a pool of some packages, the first ones of which are installed.
type words struct {
	all       []api.Package
	installed int
	r         api.Request
	known     map[int][]int // successors that were asked for before
}

// wordsOf are those of a request over an input.
func wordsOf(in input, r api.Request) words {
	return words{in.all(), len(in.installed), r, map[int][]int{}}
}

// has says whether there is an edit.
func (w words) has(kind uint8, n int) bool { return slices.Contains(w.r.Edits, edit(kind, n)) }

// job says whether there is a job of that Kind, without an edit that drops it, that names a package.
func (w words) job(kind uint8, i int) bool {
	yes := false
	for j, one := range w.r.Jobs {
		if one.Kind == kind && pkg.Named(w.all[i], one.Dep) && !w.has(api.DropJob, j) {
			yes = true
		}
	}
	return yes
}

// goes says whether an installed package may be removed.
func (w words) goes(i int) bool { return w.job(api.Erase, i) || w.has(api.AllowErase, i) }

// down says whether it may be downgraded.
func (w words) down(i int) bool { return w.job(api.Sync, i) || w.has(api.AllowDown, i) }

// fits says whether an architecture fits a machine.
func fits(machine, a uint8) bool {
	return a == machine || a == api.NoArch || machine == api.X8664 && a == api.I686
}

// follows says whether a package may follow an installed one of its name.
func (w words) follows(n, i int) bool {
	p, old := w.all[n], w.all[i]
	switch {
	case p.Name != old.Name:
		return false
	case evr.Compare(p.EVR, old.EVR) < 0 && !w.down(i):
		return false
	case p.Arch != old.Arch && p.Arch != api.NoArch && old.Arch != api.NoArch && !w.has(api.AllowArch, i):
		return false
	}
	return p.Vendor == old.Vendor || w.r.Vendor
}

// those are the packages of which a condition holds.
func (w words) those(condition func(n int) bool) []int {
	return slices.DeleteFunc(numbers(0, len(w.all)), func(n int) bool { return !condition(n) })
}

// successors are those of an installed package.
func (w words) successors(i int) []int {
	if w.known[i] == nil {
		w.known[i] = w.those(func(n int) bool { return n == i || w.follows(n, i) || pkg.Obsoletes(w.all[n], w.all[i]) })
	}
	return slices.Clone(w.known[i])
}

// newcomers are those of an installed package.
func (w words) newcomers(i int) []int {
	l := w.successors(i)
	return slices.DeleteFunc(l, func(n int) bool { return n < w.installed || !fits(w.r.Arch, w.all[n].Arch) })
}

// meant are the packages that a job means.
func (w words) meant(job api.Job) []int {
	return w.those(func(n int) bool {
		switch job.Kind {
		case api.Install:
			return pkg.Provides(w.all[n], job.Dep)
		case api.Erase:
			return pkg.Named(w.all[n], job.Dep)
		}
		return n < w.installed && pkg.Named(w.all[n], job.Dep)
	})
}

// one says whether one of some packages is in a state.
func one(state, l []int) bool {
	return slices.ContainsFunc(l, func(n int) bool { return slices.Contains(state, n) })
}

// fulfils says whether a state fulfils a job.
func (w words) fulfils(job api.Job, state []int) bool {
	switch job.Kind {
	case api.Install:
		return one(state, w.meant(job))
	case api.Erase:
		return !one(state, w.meant(job))
	}
	for i := range w.installed {
		if !pkg.Named(w.all[i], job.Dep) {
			continue
		}
		l := w.successors(i)
		if job.Kind == api.Sync {
			l = w.newcomers(i)
		}
		if !one(state, l) && (job.Kind == api.Upgrade || len(l) > 0) {
			return false
		}
	}
	return true
}

// twins says whether two packages are twins.
func (w words) twins(n, m int) bool {
	p, q := w.all[n], w.all[m]
	apart := p.Arch != q.Arch && p.Arch != api.NoArch && q.Arch != api.NoArch
	return n != m && p.Name == q.Name && !(apart && evr.Compare(p.EVR, q.EVR) == 0)
}
