package codec_test

import (
	"reflect"
	"slices"
	"strconv"
	"strings"
	"unsafe"

	"chandlery/api"
	"chandlery/codec"
	"chandlery/pkg"
)

// richLists are the lists of rich dependencies.
var richLists = []struct {
	name string
	of   func(*api.Package) *[]api.Rich
}{
	{"Requires", func(p *api.Package) *[]api.Rich { return &p.Requires }},
	{"Conflicts", func(p *api.Package) *[]api.Rich { return &p.Conflicts }},
	{"Recommends", func(p *api.Package) *[]api.Rich { return &p.Recommends }},
	{"Supplements", func(p *api.Package) *[]api.Rich { return &p.Supplements }},
	{"Suggests", func(p *api.Package) *[]api.Rich { return &p.Suggests }},
	{"Enhances", func(p *api.Package) *[]api.Rich { return &p.Enhances }},
}

// depLists are the lists of plain dependencies.
var depLists = []struct {
	name string
	of   func(*api.Package) *[]api.Dep
}{
	{"Provides", func(p *api.Package) *[]api.Dep { return &p.Provides }},
	{"Obsoletes", func(p *api.Package) *[]api.Dep { return &p.Obsoletes }},
}

// longest is a name, a version, a release or a vendor of the greatest length.
var longest = strings.Repeat("x", api.MaxName)

// version is an EVR of the Epoch 0.
func version(ver, rel string) api.EVR { return api.EVR{Ver: ver, Rel: rel} }

// named is a dependency of any version.
func named(name string) api.Dep { return api.Dep{Name: name} }

// ranged is a dependency of a range of versions.
func ranged(name string, op uint8, e api.EVR) api.Dep { return api.Dep{Name: name, Op: op, EVR: e} }

// atom is an Atom of any version.
func atom(name string) api.Rich { return api.Rich{Kind: api.Atom, Dep: named(name)} }

// of is a part with these Args.
func of(kind uint8, args ...api.Rich) api.Rich { return api.Rich{Kind: kind, Args: args} }

// called is a valid package of that name that has nothing that it need not have.
func called(name string) api.Package {
	return api.Package{Name: name, EVR: version("1", "1"), Arch: api.NoArch}
}

// several are so many packages, each with a name of its own.
func several(n int) []api.Package {
	var l []api.Package
	for i := range n {
		l = append(l, called("p"+strconv.Itoa(i)))
	}
	return l
}

// repo is a repository of the Priority 0.
func repo(packages ...api.Package) api.Repo { return api.Repo{Packages: packages} }

// repos are so many repositories without packages.
func repos(n int) []api.Repo { return make([]api.Repo, n) }

// ordinary is a valid package that has some of everything.
func ordinary() api.Package {
	return api.Package{
		Name:        "vim",
		EVR:         api.EVR{Epoch: 200, Ver: "9.1", Rel: "3"},
		Arch:        api.X8664,
		Vendor:      "Some & Co.",
		Provides:    []api.Dep{named("editor"), ranged("vi", api.Equal, version("9", ""))},
		Requires:    []api.Rich{atom("libc"), of(api.If, atom("vim-x"), of(api.With, atom("x"), atom("y")), atom("z"))},
		Conflicts:   []api.Rich{atom("elvis"), of(api.Unless, atom("nvi"), atom("vi-both"))},
		Obsoletes:   []api.Dep{ranged("vi", api.Less, version("2", "1"))},
		Recommends:  []api.Rich{of(api.Or, atom("vim-data"), atom("vim-small"))},
		Supplements: []api.Rich{of(api.With, atom("desktop"), atom("text"))},
		Suggests:    []api.Rich{{Kind: api.Atom, Dep: ranged("spell", api.Greater|api.Equal, api.EVR{Epoch: 1, Ver: "2"})}, atom("ctags")},
		Enhances:    []api.Rich{of(api.Without, atom("git"), atom("git-own-editor")), atom("less")},
		Files:       []string{"/usr/bin/vi", "/usr/bin/vim", "/usr/share/vim"},
	}
}

// files are so many names of files, in increasing order, each of the greatest length.
func files(n int) []string {
	var l []string
	for i := range n {
		l = append(l, "/"+strings.Repeat("f", api.MaxName-4)+strconv.Itoa(100+i))
	}
	return l
}

// full is a valid package of which each part is as great as may be.
func full() api.Package {
	e := api.EVR{Epoch: api.MaxEpoch, Ver: longest, Rel: longest}
	p := api.Package{Name: longest, EVR: e, Arch: api.AArch64, Vendor: strings.Repeat("\xff", api.MaxName), Files: files(api.MaxFiles)}
	d := ranged(longest, api.Greater|api.Equal, e)
	for _, list := range depLists {
		*list.of(&p) = slices.Repeat([]api.Dep{d}, api.MaxDeps)
	}
	wide := of(api.Or, slices.Repeat([]api.Rich{{Kind: api.Atom, Dep: d}}, api.MaxNodes-1)...)
	for _, list := range richLists {
		*list.of(&p) = slices.Repeat([]api.Rich{wide}, api.MaxDeps)
	}
	return copied(p)
}

// deep is a part with so many others around its Atom, which is the first Arg of the innermost, or the last one.
func deep(levels int, first bool) api.Rich {
	r := atom("b")
	for range levels {
		if first {
			r = of(api.And, r, atom("c"))
		} else {
			r = of(api.Or, atom("c"), r)
		}
	}
	return r
}

// mixed are valid data that have some of everything.
func mixed() codec.Data {
	return codec.Data{
		Repos:     []api.Repo{{Priority: 300, Packages: []api.Package{ordinary(), called("b")}}, {}, {Priority: api.MaxPriority, Packages: []api.Package{called("c")}}},
		Installed: []api.Package{called("d"), ordinary()},
	}
}

// small are data of few parts, valid and invalid ones.
func small() []codec.Data {
	odd := ordinary()
	odd.Name, odd.Arch, odd.Files = "/usr/bin/odd", 77, []string{"", "/z", "b", "/z", "\xff"}
	odd.Provides = []api.Dep{{}, {Name: "x", Op: 255}, {Op: 5, EVR: api.EVR{Epoch: -1, Ver: "\x00"}}}
	odd.Requires = []api.Rich{{}, {Kind: api.Atom, Dep: named("a"), Args: []api.Rich{atom("b")}}, {Kind: 200, Args: []api.Rich{{}, of(api.And)}}}
	return []codec.Data{
		{},
		{Repos: repos(1)},
		{Repos: []api.Repo{repo(called("a"))}},
		{Installed: []api.Package{called("a")}},
		mixed(),
		{Repos: []api.Repo{{Priority: -1, Packages: []api.Package{odd}}, {Priority: 1 << 40}}, Installed: []api.Package{{}, odd}},
	}
}

// copiedValue is a copy that shares no lists with v, found by other means than the program's: field by field, whatever there are.
func copiedValue(v reflect.Value) reflect.Value {
	c := reflect.New(v.Type()).Elem()
	c.Set(v)
	switch {
	case v.Kind() == reflect.Struct:
		for i := range v.NumField() {
			c.Field(i).Set(copiedValue(v.Field(i)))
		}
	case v.Kind() == reflect.Slice && !v.IsNil():
		c.Set(reflect.MakeSlice(v.Type(), v.Len(), v.Len()))
		for i := range v.Len() {
			c.Index(i).Set(copiedValue(v.Index(i)))
		}
	}
	return c
}

// copied is a copy that shares no lists with x; where there is no list there is none.
func copied[T any](x T) T { return copiedValue(reflect.ValueOf(x)).Interface().(T) }

// emptyLists puts an empty list in place of each that there is not.
func emptyLists(v reflect.Value) {
	switch v.Kind() {
	case reflect.Struct:
		for i := range v.NumField() {
			emptyLists(v.Field(i))
		}
	case reflect.Slice:
		if v.IsNil() {
			v.Set(reflect.MakeSlice(v.Type(), 0, 3))
		}
		for i := range v.Len() {
			emptyLists(v.Index(i))
		}
	}
}

// emptied is a copy with an empty list in place of each that there is not.
func emptied(d codec.Data) codec.Data {
	d = copied(d)
	emptyLists(reflect.ValueOf(&d).Elem())
	return d
}

// sameBy says whether both are the same, found by other means than the program's.
func sameBy(a, b codec.Data) bool { return reflect.DeepEqual(emptied(a), emptied(b)) }

// alter changes one part of v after another, each alone: it calls f with the part's name, then puts back what was there.
func alter(name string, v reflect.Value, f func(string)) {
	before := copiedValue(v)
	try := func(x any) {
		v.Set(reflect.ValueOf(x).Convert(v.Type()))
		f(name)
		v.Set(before)
	}
	switch v.Kind() {
	case reflect.String:
		try(before.String() + "0")
		try("0" + before.String())
	case reflect.Int:
		try(before.Int() + 1)
	case reflect.Uint8:
		try(uint8(before.Uint()) + 1)
		try(uint8(before.Uint()) ^ 0x80)
	case reflect.Struct:
		for i := range v.NumField() {
			alter(name+"."+v.Type().Field(i).Name, v.Field(i), f)
		}
	case reflect.Slice:
		alterList(v, before, try)
		for i := range v.Len() {
			alter(name+"["+strconv.Itoa(i)+"]", v.Index(i), f)
		}
	}
}

// alterList tries lists that are unlike v: with one element more, with one less, in another order.
func alterList(v, before reflect.Value, try func(any)) {
	n := v.Len()
	more := reflect.New(v.Type().Elem()).Elem()
	try(reflect.Append(copiedValue(v), more).Interface())
	try(reflect.AppendSlice(reflect.Append(reflect.MakeSlice(v.Type(), 0, n+1), more), v).Interface())
	if n > 0 {
		try(before.Slice(1, n).Interface())
		try(before.Slice(0, n-1).Interface())
	}
	for i := 1; i < n; i++ {
		other := copiedValue(v)
		reflect.Swapper(other.Interface())(i-1, i)
		if !reflect.DeepEqual(other.Interface(), before.Interface()) {
			try(other.Interface())
		}
	}
}

// eachAltered calls f with data that are unlike d in one part alone, and the part's name.
func eachAltered(d codec.Data, f func(string, codec.Data)) {
	d = copied(d)
	alter("", reflect.ValueOf(&d).Elem(), func(name string) { f(name, copied(d)) })
}

// overwrite changes all parts of v where they lie, and those behind the ends of its lists, as far as there is memory.
func overwrite(v reflect.Value) {
	switch v.Kind() {
	case reflect.String:
		v.SetString("overwritten")
	case reflect.Int:
		v.SetInt(v.Int() + 7)
	case reflect.Uint8:
		v.SetUint(v.Uint() ^ 9)
	case reflect.Struct:
		for i := range v.NumField() {
			overwrite(v.Field(i))
		}
	case reflect.Slice:
		all := v.Slice(0, v.Cap())
		for i := range all.Len() {
			overwrite(all.Index(i))
		}
		v.Set(reflect.Append(v, reflect.New(v.Type().Elem()).Elem()))
	}
}

// textsIn are all texts in v.
func textsIn(v reflect.Value) []string {
	var l []string
	switch v.Kind() {
	case reflect.String:
		l = append(l, v.String())
	case reflect.Struct:
		for i := range v.NumField() {
			l = append(l, textsIn(v.Field(i))...)
		}
	case reflect.Slice:
		for i := range v.Len() {
			l = append(l, textsIn(v.Index(i))...)
		}
	}
	return l
}

// shared says whether two texts have bytes in common memory. Texts of one byte may: the language keeps one of each, which nobody can change.
func shared(a, b string) bool {
	if len(a) < 2 || len(b) < 2 {
		return false
	}
	p, q := uintptr(unsafe.Pointer(unsafe.StringData(a))), uintptr(unsafe.Pointer(unsafe.StringData(b)))
	return p < q+uintptr(len(b)) && q < p+uintptr(len(a))
}

// dice are numbers that follow one another by a rule, the same each time.
type dice uint64

// roll is a number from 0 to n-1.
func (d *dice) roll(n int) int {
	*d = *d*6364136223846793005 + 1442695040888963407
	return int(uint64(*d)>>33) % n
}

// pick is one of several.
func pick[T any](d *dice, l ...T) T { return l[d.roll(len(l))] }

// listOf is a list of up to so many elements; more often it is a short one.
func listOf[T any](d *dice, most int, one func() T) []T {
	var l []T
	for range d.roll(1 + d.roll(most+1)) {
		l = append(l, one())
	}
	return l
}

// evr is a valid EVR; dep: of a dependency, so that it may be without a release.
func (d *dice) evr(dep bool) api.EVR {
	e := api.EVR{Epoch: pick(d, 0, 0, 0, 1, 127, 128, 1<<14, api.MaxEpoch), Ver: pick(d, "1", "2", "1.0", "2~rc", longest), Rel: pick(d, "1", "2", "01")}
	if dep && d.roll(3) == 0 {
		e.Rel = ""
	}
	return e
}

// dep is a valid dependency.
func (d *dice) dep() api.Dep {
	op := pick(d, api.Any, api.Any, api.Less, api.Equal, api.Greater, api.Less|api.Equal, api.Greater|api.Equal)
	if op == api.Any {
		return named(pick(d, "a", "b", "ab", "/f", "/f/g", longest))
	}
	return ranged(pick(d, "a", "b", "ab"), op, d.evr(true))
}

// rich is a rich dependency of one of these Kinds, up to so deep.
func (d *dice) rich(depth int, kinds ...uint8) api.Rich {
	if depth == 0 || d.roll(3) == 0 {
		return api.Rich{Kind: api.Atom, Dep: d.dep()}
	}
	r := of(pick(d, kinds...), d.rich(depth-1, kinds...), d.rich(depth-1, kinds...))
	if r.Kind == api.With || r.Kind == api.Without {
		r.Args = []api.Rich{d.rich(0), d.rich(0)}
	}
	for r.Kind != api.Without && len(r.Args) < 4 && d.roll(3) == 0 && (len(r.Args) == 2 || r.Kind != api.If && r.Kind != api.Unless) {
		r.Args = append(r.Args, d.rich(0))
	}
	return r
}

// richList is a list of rich dependencies of these Kinds.
func (d *dice) richList(kinds ...uint8) []api.Rich {
	return listOf(d, 3, func() api.Rich { return d.rich(d.roll(4), kinds...) })
}

// pkg is a package, which is valid but for a rich dependency that may have too many parts.
func (d *dice) pkg() api.Package {
	weak := []uint8{api.And, api.Or, api.With, api.Without}
	clash := append([]uint8{api.Unless}, weak...)
	needs := append([]uint8{api.If}, clash...)
	p := api.Package{
		Name:        pick(d, "a", "b", "ab"),
		EVR:         d.evr(false),
		Arch:        pick(d, api.NoArch, api.X8664, api.I686, api.AArch64),
		Vendor:      pick(d, "", "v", "\xffw", longest),
		Provides:    listOf(d, 4, d.dep),
		Requires:    d.richList(needs...),
		Conflicts:   d.richList(clash...),
		Obsoletes:   listOf(d, 4, d.dep),
		Recommends:  d.richList(needs...),
		Supplements: d.richList(weak...),
		Suggests:    d.richList(needs...),
		Enhances:    d.richList(weak...),
		Files:       listOf(d, 4, func() string { return pick(d, "/a", "/f", "/g", "/h", "/G") }),
	}
	slices.Sort(p.Files)
	p.Files = slices.Compact(p.Files)
	return p
}

// valid is a valid package.
func (d *dice) valid() api.Package {
	for {
		if p := d.pkg(); pkg.May(p) {
			return p
		}
	}
}

// packages are up to three valid packages, seldom as many as that.
func (d *dice) packages() []api.Package { return listOf(d, 3, d.valid) }

// data are valid data.
func (d *dice) data() codec.Data {
	repos := listOf(d, 4, func() api.Repo {
		return api.Repo{Priority: pick(d, 0, 1, 127, 128, api.MaxPriority, d.roll(api.MaxPriority)), Packages: d.packages()}
	})
	return codec.Data{Repos: repos, Installed: d.packages()}
}
