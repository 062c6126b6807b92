package truth_test

import (
	"slices"
	"strconv"
	"strings"
	"testing"

	"chandlery/api"
	"chandlery/pkg"
	"chandlery/pool"
	"chandlery/rich"
	"chandlery/truth"
)

// longest is a name of the greatest length.
var longest = strings.Repeat("x", api.MaxName)

// kinds are the Kinds that have Args.
var kinds = []uint8{api.And, api.Or, api.If, api.Unless, api.With, api.Without}

// steady are those among them by which a state never satisfies less with more packages.
var steady = []uint8{api.And, api.Or, api.With, api.Without}

// named is a dependency of any version.
func named(name string) api.Dep { return api.Dep{Name: name} }

// ranged is a dependency of a range of versions, of whatever release.
func ranged(name string, op uint8, ver string) api.Dep {
	return api.Dep{Name: name, Op: op, EVR: api.EVR{Ver: ver}}
}

// atom is an Atom of any version.
func atom(name string) api.Rich { return api.Rich{Kind: api.Atom, Dep: named(name)} }

// of is a part with these Args.
func of(kind uint8, args ...api.Rich) api.Rich { return api.Rich{Kind: kind, Args: args} }

// at is a valid package of that name and version, with the release 1, that has nothing that it need not have.
func at(name, ver string) api.Package {
	return api.Package{Name: name, EVR: api.EVR{Ver: ver, Rel: "1"}, Arch: api.NoArch}
}

// providing is a package that provides these, too.
func providing(p api.Package, l ...api.Dep) api.Package {
	p.Provides = l
	return p
}

// having is a package of that name that provides these, too, in any version.
func having(name string, names ...string) api.Package {
	p := at(name, "1")
	for _, other := range names {
		p.Provides = append(p.Provides, named(other))
	}
	return p
}

// filed is a package that has these files.
func filed(p api.Package, l ...string) api.Package {
	p.Files = l
	return p
}

// read is the rich dependency of a text.
func read(t *testing.T, s string) api.Rich {
	t.Helper()
	r, place, e := rich.Parse(s)
	if e != api.OK {
		t.Fatalf("%q: %d at %d", s, e, place)
	}
	return r
}

// text tells a rich dependency, be it well-formed or not.
func text(r api.Rich) string {
	if s, e := rich.Show(r); e == api.OK {
		return s
	}
	return "(not well-formed)"
}

// repo is a repository.
func repo(packages ...api.Package) api.Repo { return api.Repo{Packages: packages} }

// input is what a pool is made of.
type input struct {
	repos     []api.Repo
	installed []api.Package
}

// all are the packages of the pool of an input, by their numbers.
func (in input) all() []api.Package {
	l := slices.Clone(in.installed)
	for _, r := range in.repos {
		l = append(l, r.Packages...)
	}
	return l
}

// made is the truth of the pool of an input, and that pool.
func made(t *testing.T, in input) (*truth.Truth, *pool.Pool) {
	t.Helper()
	p, e := pool.New(in.repos, in.installed)
	if e != api.OK {
		t.Fatalf("pool.New(%v): %d", in, e)
	}
	u, e := truth.New(p)
	if u == nil || e != api.OK {
		t.Fatalf("New: %v, %d", u, e)
	}
	return u, p
}

// over is the truth of a pool of these packages, some of which are installed.
func over(t *testing.T, l ...api.Package) *truth.Truth {
	t.Helper()
	u, _ := made(t, input{[]api.Repo{repo(l[len(l)/2:]...)}, l[:len(l)/2]})
	return u
}

// spread puts packages over installed ones and repositories, in several ways, so that each has the same number in each of them.
func spread(l ...api.Package) []input {
	ways := []input{
		{installed: l},
		{repos: []api.Repo{repo(l...)}},
		{repos: []api.Repo{{}, {Priority: 7, Packages: l}, {}}},
	}
	for i := range l {
		ways = append(ways, input{repos: []api.Repo{repo(l[i:]...)}, installed: l[:i]})
		ways = append(ways, input{repos: []api.Repo{{Priority: i, Packages: l[:i]}, repo(l[i:]...)}})
	}
	return ways
}

// absent are numbers that no package of a pool has.
func absent(count int) []int {
	return []int{-1, -2, -63, -64, -65, -256, -1 << 63, count, count + 1, count + 64, 255 + count, 256 + count, 1 << 32, 1<<63 - 1}
}

// alike are lists that are the same state: in other rows, with repeated numbers, and with ones of no package.
func alike(state []int, count int) [][]int {
	turned := slices.Clone(state)
	slices.Reverse(turned)
	twice := append(slices.Clone(turned), state...)
	strange := append(absent(count), twice...)
	for i, n := range state {
		strange = append(strange, absent(count)[i%len(absent(count))], n)
	}
	return [][]int{state, turned, slices.Repeat(state, 3), twice, strange, append(strange, absent(count)...)}
}

// states are all lists of numbers below count, each in increasing order.
func states(count int) [][]int {
	l := [][]int{nil}
	for n := range count {
		for _, state := range l {
			l = append(l, append(slices.Clone(state), n))
		}
	}
	return l
}

// digits are the numbers of a text, each a digit; a point is no number.
func digits(s string) []int {
	var l []int
	for _, one := range strings.Trim(s, ".") {
		l = append(l, int(one-'0'))
	}
	return l
}

// dice are numbers that follow one another by a rule, the same each time.
type dice uint64

// roll is a number from 0 to n-1.
func (d *dice) roll(n int) int {
	*d = *d*6364136223846793005 + 1442695040888963407
	return int(uint64(*d)>>33) % n
}

// pick is one of several.
func pick[T any](d *dice, l ...T) T { return l[d.roll(len(l))] }

// listOf is a list of up to so many elements; more often it is neither short nor long.
func listOf[T any](d *dice, most int, one func() T) []T {
	var l []T
	for range (d.roll(most+1) + d.roll(most+1)) / 2 {
		l = append(l, one())
	}
	return l
}

// name is a name of few, some of which are much alike.
func (d *dice) name() string { return pick(d, "a", "b", "c", "ab", "A", longest) }

// dep is a valid dependency.
func (d *dice) dep() api.Dep {
	op := pick(d, api.Any, api.Less, api.Equal, api.Greater, api.Less|api.Equal, api.Greater|api.Equal)
	switch {
	case d.roll(8) == 0:
		return named(pick(d, "/a", "/b"))
	case op == api.Any:
		return named(d.name())
	}
	return api.Dep{Name: d.name(), Op: op, EVR: api.EVR{Ver: pick(d, "1", "2", "3"), Rel: pick(d, "", "1")}}
}

// pkg is a valid package.
func (d *dice) pkg() api.Package {
	p := at(d.name(), pick(d, "1", "2", "3"))
	p.Provides = listOf(d, 3, d.dep)
	p.Obsoletes = listOf(d, 2, d.dep)
	p.Requires = listOf(d, 2, func() api.Rich { return api.Rich{Kind: api.Atom, Dep: d.dep()} })
	p.Files = pick(d, nil, nil, []string{"/a"}, []string{"/b"}, []string{"/a", "/b"})
	return p
}

// input is a valid one.
func (d *dice) input() input {
	repos := listOf(d, 3, func() api.Repo { return repo(listOf(d, 5, d.pkg)...) })
	return input{repos, listOf(d, 7, d.pkg)}
}

// inputs are valid ones of all sorts.
func inputs(n int) []input {
	l := []input{{}, {repos: []api.Repo{{}, {}}}, {installed: []api.Package{at("a", "1")}}, {repos: []api.Repo{repo(filed(having("a", "b"), "/a"))}}}
	d := dice(n)
	for range n {
		l = append(l, d.input())
	}
	return l
}

// state is a list of some of so many packages; now and then there are numbers of no package, and repeated ones.
func (d *dice) state(count int) []int {
	var l []int
	most := 1 + d.roll(4)
	for n := range count {
		if d.roll(4) < most {
			l = append(l, n)
		}
	}
	if d.roll(3) > 0 {
		return l
	}
	for range d.roll(6) {
		l = slices.Insert(l, d.roll(len(l)+1), pick(d, append(absent(count), l...)...))
	}
	return l
}

// grow is a well-formed rich dependency of some Kinds, of at most so many parts, two at least for each Arg, and so deep.
func (d *dice) grow(parts, depth int, some []uint8) api.Rich {
	if parts < 4 || depth == 0 {
		return api.Rich{Kind: api.Atom, Dep: d.dep()}
	}
	kind := pick(d, some...)
	n := 2
	switch kind {
	case api.If, api.Unless:
		n += d.roll(2)
	case api.And, api.Or, api.With:
		n += d.roll(3)
	}
	n = min(n, parts-1)
	args := make([]api.Rich, n)
	left := parts - 1 - n
	for i := range args {
		more := d.roll(left + 1)
		left -= more
		args[i] = d.grow(1+more, depth-1, some)
	}
	return of(kind, args...)
}

// rich is a well-formed rich dependency of some Kinds; small ones are more frequent.
func (d *dice) rich(some []uint8) api.Rich {
	return d.grow(pick(d, 1, 4, 5, 6, 8, 12, api.MaxNodes), pick(d, 1, 2, 3, api.MaxNest), some)
}

// grown calls f with pools of all sorts, and with several states and rich dependencies of some Kinds for each.
func grown(t *testing.T, pools, each int, some []uint8, f func(u *truth.Truth, l []api.Package, state []int, r api.Rich)) {
	t.Helper()
	d := dice(pools)
	for _, in := range inputs(pools) {
		u, _ := made(t, in)
		l := in.all()
		for range each {
			f(u, l, d.state(len(l)), d.rich(some))
		}
	}
}

// those are the packages of a state, by their numbers.
func those(l []api.Package, state []int) map[int]api.Package {
	in := map[int]api.Package{}
	for _, n := range state {
		if n >= 0 && n < len(l) {
			in[n] = l[n]
		}
	}
	return in
}

// how many of the Args a state satisfies, by the words of S3.
func how(in map[int]api.Package, args []api.Rich) int {
	n := 0
	for _, arg := range args {
		if by(in, arg) {
			n++
		}
	}
	return n
}

// singles says whether one of the packages alone satisfies the first Arg, and of the others all, or none, by the words of S3.
func singles(in map[int]api.Package, args []api.Rich, others bool) bool {
	yes := false
	for n, p := range in {
		alone := map[int]api.Package{n: p}
		want := 0
		if others {
			want = len(args) - 1
		}
		yes = yes || by(alone, args[0]) && how(alone, args[1:]) == want
	}
	return yes
}

// by says whether a state satisfies what is well-formed, by the words of S3.
func by(in map[int]api.Package, r api.Rich) bool {
	three := len(r.Args) == 3
	yes := func(i int) bool { return by(in, r.Args[i]) }
	switch r.Kind {
	case api.Atom:
		for _, p := range in {
			if pkg.Provides(p, r.Dep) {
				return true
			}
		}
		return false
	case api.And:
		return how(in, r.Args) == len(r.Args)
	case api.Or:
		return how(in, r.Args) > 0
	case api.If:
		return three && (yes(1) && yes(0) || !yes(1) && yes(2)) || !three && (yes(0) || !yes(1))
	case api.Unless:
		return three && (yes(1) && yes(2) || !yes(1) && yes(0)) || !three && yes(0) && !yes(1)
	}
	return singles(in, r.Args, r.Kind == api.With)
}

// whoBy are those that alone satisfy what is well-formed, by the words of S3.
func whoBy(in map[int]api.Package, r api.Rich) []int {
	var l []int
	for n, p := range in {
		if by(map[int]api.Package{n: p}, r) {
			l = append(l, n)
		}
	}
	slices.Sort(l)
	return l
}

// wantTruth asks for all that is told of a state and a rich dependency that is well-formed.
func wantTruth(t *testing.T, u *truth.Truth, l []api.Package, state []int, r api.Rich) {
	t.Helper()
	in := those(l, state)
	if want := by(in, r); u.Satisfies(state, r) != want {
		t.Errorf("%v satisfies %s: want %v", state, text(r), want)
	}
	if got, want := u.Who(state, r), whoBy(in, r); !slices.Equal(got, want) {
		t.Errorf("of %v, %v satisfy %s, want %v", state, got, text(r), want)
	}
	for n, p := range l {
		if want := by(map[int]api.Package{n: p}, r); u.Alone(n, r) != want {
			t.Errorf("%d alone satisfies %s: want %v", n, text(r), want)
		}
		less := those(l, state)
		delete(less, n)
		if want := by(less, r); u.Without(state, n, r) != want {
			t.Errorf("%v without %d satisfies %s: want %v", state, n, text(r), want)
		}
	}
	for _, n := range absent(len(l)) {
		if u.Alone(n, r) {
			t.Errorf("%d, which there is not, satisfies %s", n, text(r))
		}
		if want := by(in, r); u.Without(state, n, r) != want {
			t.Errorf("%v without %d, which there is not, satisfies %s: want %v", state, n, text(r), want)
		}
	}
}

// wantNothing asks for a rich dependency that nothing satisfies.
func wantNothing(t *testing.T, what string, u *truth.Truth, count int, r api.Rich) {
	t.Helper()
	numbers := append(absent(count), 0, 1, 2)
	for _, state := range append(states(min(count, 3)), numbers) {
		if u.Satisfies(state, r) {
			t.Errorf("%s: %v satisfies it", what, state)
		}
		if l := u.Who(state, r); len(l) != 0 {
			t.Errorf("%s: of %v, %v alone satisfy it", what, state, l)
		}
		for _, n := range numbers {
			if u.Without(state, n, r) {
				t.Errorf("%s: %v without %d satisfies it", what, state, n)
			}
		}
	}
	for _, n := range numbers {
		if u.Alone(n, r) {
			t.Errorf("%s: %d alone satisfies it", what, n)
		}
	}
}

// number is a number as a text.
func number(n int) string { return strconv.Itoa(n) }
