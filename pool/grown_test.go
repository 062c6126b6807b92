package pool_test

import (
	"reflect"
	"slices"
	"strconv"
	"strings"
	"testing"
	"unsafe"

	"chandlery/api"
	"chandlery/pkg"
	"chandlery/pool"
)

// longest is a name of the greatest length.
var longest = strings.Repeat("x", api.MaxName)

// named is a dependency of any version.
func named(name string) api.Dep { return api.Dep{Name: name} }

// ranged is a dependency of a range of versions, each with the release 1.
func ranged(name string, op uint8, ver string) api.Dep {
	return api.Dep{Name: name, Op: op, EVR: api.EVR{Ver: ver, Rel: "1"}}
}

// atom is an Atom of any version.
func atom(name string) api.Rich { return api.Rich{Kind: api.Atom, Dep: named(name)} }

// of is a part with these Args.
func of(kind uint8, args ...api.Rich) api.Rich { return api.Rich{Kind: kind, Args: args} }

// at is a valid package of that name and version that has nothing that it need not have.
func at(name, ver string) api.Package {
	return api.Package{Name: name, EVR: api.EVR{Ver: ver, Rel: "1"}, Arch: api.NoArch}
}

// called are such packages of the version 1.
func called(names ...string) []api.Package {
	var l []api.Package
	for _, name := range names {
		l = append(l, at(name, "1"))
	}
	return l
}

// several are so many packages, each with a name of its own that begins like that.
func several(name string, n int) []api.Package {
	var l []api.Package
	for i := range n {
		l = append(l, at(name+strconv.Itoa(i), "1"))
	}
	return l
}

// repo is a repository.
func repo(priority int, packages ...api.Package) api.Repo {
	return api.Repo{Priority: priority, Packages: packages}
}

// ordinary is a valid package that has some of everything.
func ordinary() api.Package {
	return api.Package{
		Name:        "vim",
		EVR:         api.EVR{Epoch: 2, Ver: "9.1", Rel: "3"},
		Arch:        api.X8664,
		Vendor:      "Some & Co.",
		Provides:    []api.Dep{named("editor"), ranged("vi", api.Equal, "9")},
		Requires:    []api.Rich{atom("libc"), of(api.If, atom("vim-x"), of(api.With, atom("xx"), atom("yy")), atom("zz"))},
		Conflicts:   []api.Rich{atom("elvis"), of(api.Unless, atom("nvi"), atom("vi-both"))},
		Obsoletes:   []api.Dep{ranged("vi", api.Less, "2"), named("edlin")},
		Recommends:  []api.Rich{of(api.Or, atom("vim-data"), atom("vim-small"))},
		Supplements: []api.Rich{of(api.With, atom("desktop"), atom("text"))},
		Suggests:    []api.Rich{atom("spell"), atom("ctags")},
		Enhances:    []api.Rich{of(api.Without, atom("git"), atom("git-own-editor")), atom("less")},
		Files:       []string{"/usr/bin/vi", "/usr/bin/vim", "/usr/share/vim"},
	}
}

// input is what a pool is made of.
type input struct {
	repos     []api.Repo
	installed []api.Package
}

// some are valid inputs of all sorts.
func some() []input {
	return []input{
		{},
		{installed: called("a")},
		{repos: []api.Repo{{}}},
		{repos: []api.Repo{repo(3, called("a")...)}},
		{repos: []api.Repo{repo(5, called("b", "c")...), repo(7, called("a")...)}, installed: called("a")},
		{repos: []api.Repo{{}, repo(1, ordinary()), {Priority: 2}, repo(api.MaxPriority, called("vi", "edlin", "vim")...), {}}, installed: append(called("vi", "b"), ordinary())},
		{repos: []api.Repo{repo(1, at("a", "1"), at("a", "2"), at("a", "1")), repo(0, at("a", "1"), at("b", "1"))}, installed: []api.Package{at("a", "3"), at("a", "3")}},
	}
}

// copiedValue is a copy that shares no lists with v, found by other means than the program's: field by field, whatever there are.
func copiedValue(v reflect.Value) reflect.Value {
	c := reflect.New(v.Type()).Elem()
	c.Set(v)
	switch {
	case v.Kind() == reflect.Struct:
		for i := range v.NumField() {
			c.Field(i).Set(copiedValue(v.Field(i)))
		}
	case v.Kind() == reflect.Slice && !v.IsNil():
		c.Set(reflect.MakeSlice(v.Type(), v.Len(), v.Len()))
		for i := range v.Len() {
			c.Index(i).Set(copiedValue(v.Index(i)))
		}
	}
	return c
}

// copied is a copy that shares no lists with x; where there is no list there is none.
func copied[T any](x T) T { return copiedValue(reflect.ValueOf(x)).Interface().(T) }

// copy is a copy that shares no lists with the input.
func (in input) copy() input { return input{copied(in.repos), copied(in.installed)} }

// overwrite changes all parts of v where they lie, and those behind the ends of its lists, as far as there is memory.
func overwrite(v reflect.Value) {
	switch v.Kind() {
	case reflect.String:
		v.SetString("overwritten")
	case reflect.Int:
		v.SetInt(v.Int() + 7)
	case reflect.Uint8:
		v.SetUint(v.Uint() ^ 9)
	case reflect.Struct:
		for i := range v.NumField() {
			overwrite(v.Field(i))
		}
	case reflect.Slice:
		all := v.Slice(0, v.Cap())
		for i := range all.Len() {
			overwrite(all.Index(i))
		}
		v.Set(reflect.Append(v, reflect.New(v.Type().Elem()).Elem()))
	}
}

// textsIn are all texts in v.
func textsIn(v reflect.Value) []string {
	var l []string
	switch v.Kind() {
	case reflect.String:
		l = append(l, v.String())
	case reflect.Struct:
		for i := range v.NumField() {
			l = append(l, textsIn(v.Field(i))...)
		}
	case reflect.Slice:
		for i := range v.Len() {
			l = append(l, textsIn(v.Index(i))...)
		}
	}
	return l
}

// shared says whether two texts have bytes in common memory. Texts of one byte may: the language keeps one of each, which nobody can change.
func shared(a, b string) bool {
	if len(a) < 2 || len(b) < 2 {
		return false
	}
	p, q := uintptr(unsafe.Pointer(unsafe.StringData(a))), uintptr(unsafe.Pointer(unsafe.StringData(b)))
	return p < q+uintptr(len(b)) && q < p+uintptr(len(a))
}

// wantApart asks for texts of which none of the one side has bytes in common memory with one of the other.
func wantApart(t *testing.T, what string, a, b any) {
	t.Helper()
	for _, s := range textsIn(reflect.ValueOf(a)) {
		for _, u := range textsIn(reflect.ValueOf(b)) {
			if shared(s, u) {
				t.Errorf("%s: %q shares memory with %q", what, s, u)
			}
		}
	}
}

// dice are numbers that follow one another by a rule, the same each time.
type dice uint64

// roll is a number from 0 to n-1.
func (d *dice) roll(n int) int {
	*d = *d*6364136223846793005 + 1442695040888963407
	return int(uint64(*d)>>33) % n
}

// pick is one of several.
func pick[T any](d *dice, l ...T) T { return l[d.roll(len(l))] }

// listOf is a list of up to so many elements; more often it is a short one.
func listOf[T any](d *dice, most int, one func() T) []T {
	var l []T
	for range d.roll(1 + d.roll(most+1)) {
		l = append(l, one())
	}
	return l
}

// name is a name of few, some of which are much alike.
func (d *dice) name() string { return pick(d, "a", "b", "ab", "aa", "a-b", "A", longest) }

// obsoletes is a dependency that names some of the packages.
func (d *dice) obsoletes() api.Dep {
	op := pick(d, api.Any, api.Less, api.Equal, api.Greater, api.Less|api.Equal, api.Greater|api.Equal)
	if op == api.Any {
		return named(d.name())
	}
	return ranged(d.name(), op, pick(d, "1", "2", "3"))
}

// pkg is a valid package.
func (d *dice) pkg() api.Package {
	p := at(d.name(), pick(d, "1", "2", "3"))
	p.EVR.Epoch = pick(d, 0, 0, 0, 1)
	p.Arch = uint8(1 + d.roll(4))
	p.Provides = listOf(d, 2, d.obsoletes)
	p.Obsoletes = listOf(d, 4, d.obsoletes)
	p.Requires = listOf(d, 2, func() api.Rich { return of(api.And, atom(d.name()), atom(d.name())) })
	return p
}

// packages are up to so many valid packages.
func (d *dice) packages(most int) []api.Package { return listOf(d, most, d.pkg) }

// input is a valid one.
func (d *dice) input() input {
	repos := listOf(d, 5, func() api.Repo {
		return repo(pick(d, 0, 1, 127, api.MaxPriority, d.roll(api.MaxPriority)), d.packages(5)...)
	})
	return input{repos, d.packages(6)}
}

// entry is a package as it stands in a pool.
type entry struct {
	p              api.Package
	repo, priority int
}

// entries are what stands in the pool of an input, found by other means than the program's: all packages are put in their row by the places that they have.
func (in input) entries() []entry {
	var l []entry
	for i := len(in.repos) - 1; i >= 0; i-- {
		var of []entry
		for _, p := range in.repos[i].Packages {
			of = append(of, entry{p, i, in.repos[i].Priority})
		}
		l = append(of, l...)
	}
	for i := len(in.installed) - 1; i >= 0; i-- {
		l = slices.Insert(l, 0, entry{in.installed[i], -1, 1025})
	}
	return l
}

// absent are numbers that no package of a pool has.
func absent(count int) []int {
	return []int{-1, -2, -256, -1 << 63, count, count + 1, count + 255, 1 << 32, 1<<63 - 1}
}

// noNames are names that no package of the tests has, though some are much alike.
func noNames() []string {
	return []string{"", " ", "a ", " a", "a\x00", "\xff", "vimm", "vi ", "VIM", "/usr/bin/vi", "editor", "libc", longest + "x", longest[1:], strings.Repeat("y", 1<<20)}
}

// wantNone asks for what a pool tells of numbers that there are not.
func wantNone(t *testing.T, what string, x *pool.Pool) {
	t.Helper()
	for _, n := range absent(x.Count()) {
		if p, e := x.Package(n); !reflect.DeepEqual(p, api.Package{}) || e != api.ErrNone {
			t.Errorf("%s: Package(%d): %v, %d", what, n, p, e)
		}
		if x.Repo(n) != -1 || x.Priority(n) != 0 {
			t.Errorf("%s: Repo and Priority of %d: %d, %d", what, n, x.Repo(n), x.Priority(n))
		}
		for _, m := range append(absent(x.Count()), 0, x.Count()-1) {
			if x.Obsoletes(n, m) || x.Obsoletes(m, n) {
				t.Errorf("%s: Obsoletes(%d, %d): %v, %v", what, n, m, x.Obsoletes(n, m), x.Obsoletes(m, n))
			}
		}
	}
	for _, name := range noNames() {
		if l := x.Named(name); len(l) != 0 {
			t.Errorf("%s: Named(%.80q): %v", what, name, l)
		}
	}
}

// wantEntries asks for a pool that tells just these packages.
func wantEntries(t *testing.T, what string, x *pool.Pool, l []entry) {
	t.Helper()
	if x.Count() != len(l) {
		t.Fatalf("%s: Count: %d, want %d", what, x.Count(), len(l))
	}
	installed := 0
	numbers := map[string][]int{}
	for n, want := range l {
		if p, e := x.Package(n); !pkg.Same(p, want.p) || e != api.OK {
			t.Errorf("%s: Package(%d): %v, %d, want %v", what, n, p, e, want.p)
		}
		if x.Repo(n) != want.repo || x.Priority(n) != want.priority {
			t.Errorf("%s: Repo and Priority of %d: %d, %d, want %d, %d", what, n, x.Repo(n), x.Priority(n), want.repo, want.priority)
		}
		if want.repo < 0 {
			installed++
		}
		numbers[want.p.Name] = append(numbers[want.p.Name], n)
	}
	if x.Installed() != installed {
		t.Errorf("%s: Installed: %d, want %d", what, x.Installed(), installed)
	}
	var names []string
	for name, want := range numbers {
		names = append(names, name)
		if got := x.Named(name); !slices.Equal(got, want) {
			t.Errorf("%s: Named(%q): %v, want %v", what, name, got, want)
		}
	}
	slices.SortFunc(names, strings.Compare)
	if got := x.Names(); !slices.Equal(got, names) {
		t.Errorf("%s: Names: %q, want %q", what, got, names)
	}
}

// wantObsoletes asks for which of these packages obsolete which.
func wantObsoletes(t *testing.T, what string, x *pool.Pool, l []entry) {
	t.Helper()
	for n, a := range l {
		for m, b := range l {
			want := n != m && pkg.Obsoletes(a.p, b.p)
			if x.Obsoletes(n, m) != want {
				t.Errorf("%s: Obsoletes(%d, %d): %v", what, n, m, !want)
			}
		}
	}
}

// wantPool asks for a pool of the input, and for all that it tells.
func wantPool(t *testing.T, what string, in input) *pool.Pool {
	t.Helper()
	x, e := pool.New(in.repos, in.installed)
	if x == nil || e != api.OK {
		t.Fatalf("%s: New: %v, %d", what, x, e)
	}
	wantEntries(t, what, x, in.entries())
	wantObsoletes(t, what, x, in.entries())
	wantNone(t, what, x)
	return x
}

// wantRefused asks for an error, and no pool.
func wantRefused(t *testing.T, what string, in input, want api.Errno) {
	t.Helper()
	if x, e := pool.New(in.repos, in.installed); x != nil || e != want {
		t.Errorf("%s: New: %v, %d, want %d", what, x, e, want)
	}
}
