package pkg_test

import (
	"reflect"
	"regexp"
	"slices"
	"strconv"
	"strings"
	"unsafe"

	"chandlery/api"
	"chandlery/pkg"
	"chandlery/shape"
	"chandlery/span"
)

// richLists are the lists of rich dependencies, in the order of All, each with its position.
var richLists = []struct {
	name  string
	where uint8
	of    func(*api.Package) *[]api.Rich
}{
	{"Requires", shape.Needs, func(p *api.Package) *[]api.Rich { return &p.Requires }},
	{"Conflicts", shape.Clash, func(p *api.Package) *[]api.Rich { return &p.Conflicts }},
	{"Recommends", shape.Needs, func(p *api.Package) *[]api.Rich { return &p.Recommends }},
	{"Supplements", shape.Weak, func(p *api.Package) *[]api.Rich { return &p.Supplements }},
	{"Suggests", shape.Needs, func(p *api.Package) *[]api.Rich { return &p.Suggests }},
	{"Enhances", shape.Weak, func(p *api.Package) *[]api.Rich { return &p.Enhances }},
}

// depLists are the lists of plain dependencies.
var depLists = []struct {
	name string
	of   func(*api.Package) *[]api.Dep
}{
	{"Provides", func(p *api.Package) *[]api.Dep { return &p.Provides }},
	{"Obsoletes", func(p *api.Package) *[]api.Dep { return &p.Obsoletes }},
}

// longest is a name, a version, a release or a vendor of the greatest length.
var longest = strings.Repeat("x", api.MaxName)

// version is an EVR of the Epoch 0.
func version(ver, rel string) api.EVR { return api.EVR{Ver: ver, Rel: rel} }

// named is a dependency of any version.
func named(name string) api.Dep { return api.Dep{Name: name} }

// ranged is a dependency of a range of versions.
func ranged(name string, op uint8, e api.EVR) api.Dep { return api.Dep{Name: name, Op: op, EVR: e} }

// atom is an Atom of any version.
func atom(name string) api.Rich { return api.Rich{Kind: api.Atom, Dep: named(name)} }

// of is a part with these Args.
func of(kind uint8, args ...api.Rich) api.Rich { return api.Rich{Kind: kind, Args: args} }

// plain is a valid package that has nothing that it need not have.
func plain() api.Package {
	return api.Package{Name: "a", EVR: version("1", "1"), Arch: api.NoArch}
}

// ordinary is a valid package that has some of everything.
func ordinary() api.Package {
	return api.Package{
		Name:        "vim",
		EVR:         api.EVR{Epoch: 2, Ver: "9.1", Rel: "3"},
		Arch:        api.X8664,
		Vendor:      "Some & Co.",
		Provides:    []api.Dep{named("editor"), ranged("vi", api.Equal, version("9", ""))},
		Requires:    []api.Rich{atom("libc"), of(api.If, atom("vim-x"), atom("x"))},
		Conflicts:   []api.Rich{atom("elvis"), of(api.Unless, atom("nvi"), atom("vi-both"))},
		Obsoletes:   []api.Dep{ranged("vi", api.Less, version("2", "1"))},
		Recommends:  []api.Rich{of(api.Or, atom("vim-data"), atom("vim-small"))},
		Supplements: []api.Rich{of(api.With, atom("desktop"), atom("text"))},
		Suggests:    []api.Rich{atom("spell"), atom("ctags")},
		Enhances:    []api.Rich{of(api.Without, atom("git"), atom("git-own-editor")), atom("less")},
		Files:       []string{"/usr/bin/vi", "/usr/bin/vim", "/usr/share/vim"},
	}
}

// files are so many names of files, in increasing order, each of the greatest length.
func files(n int) []string {
	var l []string
	for i := range n {
		l = append(l, "/"+strings.Repeat("f", api.MaxName-4)+strconv.Itoa(100+i))
	}
	return l
}

// full is a valid package of which each part is as great as may be.
func full() api.Package {
	e := api.EVR{Epoch: api.MaxEpoch, Ver: longest, Rel: longest}
	p := api.Package{Name: longest, EVR: e, Arch: api.AArch64, Vendor: strings.Repeat("\xff", api.MaxName), Files: files(api.MaxFiles)}
	d := ranged(longest, api.Greater|api.Equal, e)
	for _, list := range depLists {
		*list.of(&p) = slices.Repeat([]api.Dep{d}, api.MaxDeps)
	}
	wide := of(api.Or, slices.Repeat([]api.Rich{{Kind: api.Atom, Dep: d}}, api.MaxNodes-1)...)
	for _, list := range richLists {
		*list.of(&p) = slices.Repeat([]api.Rich{wide}, api.MaxDeps)
	}
	return copied(p)
}

// small are packages of few parts, valid and invalid ones.
func small() []api.Package {
	odd := ordinary()
	odd.Name, odd.Arch, odd.Files = "/usr/bin/odd", 77, []string{"", "/z", "b", "/z", "\xff"}
	odd.Provides = []api.Dep{{}, {Name: "x", Op: 255}, {Op: 5, EVR: api.EVR{Epoch: -1, Ver: "\x00"}}}
	odd.Requires = []api.Rich{{}, {Kind: api.Atom, Dep: named("a"), Args: []api.Rich{atom("b")}}, {Kind: 200, Args: []api.Rich{{}, of(api.And)}}}
	return []api.Package{{}, plain(), ordinary(), odd}
}

// some are packages, valid and invalid ones, of all sorts.
func some() []api.Package { return append(small(), full()) }

// copiedValue is a copy that shares no lists with v, found by other means than the program's: field by field, whatever there are.
func copiedValue(v reflect.Value) reflect.Value {
	c := reflect.New(v.Type()).Elem()
	c.Set(v)
	switch {
	case v.Kind() == reflect.Struct:
		for i := range v.NumField() {
			c.Field(i).Set(copiedValue(v.Field(i)))
		}
	case v.Kind() == reflect.Slice && !v.IsNil():
		c.Set(reflect.MakeSlice(v.Type(), v.Len(), v.Len()))
		for i := range v.Len() {
			c.Index(i).Set(copiedValue(v.Index(i)))
		}
	}
	return c
}

// copied is a copy that shares no lists with x; where there is no list there is none.
func copied[T any](x T) T { return copiedValue(reflect.ValueOf(x)).Interface().(T) }

// emptyLists puts an empty list in place of each that there is not.
func emptyLists(v reflect.Value) {
	switch v.Kind() {
	case reflect.Struct:
		for i := range v.NumField() {
			emptyLists(v.Field(i))
		}
	case reflect.Slice:
		if v.IsNil() {
			v.Set(reflect.MakeSlice(v.Type(), 0, 3))
		}
		for i := range v.Len() {
			emptyLists(v.Index(i))
		}
	}
}

// emptied is a copy with an empty list in place of each that there is not.
func emptied(p api.Package) api.Package {
	p = copied(p)
	emptyLists(reflect.ValueOf(&p).Elem())
	return p
}

// alter changes one part of v after another, each alone: it calls f with the part's name, then puts back what was there.
func alter(name string, v reflect.Value, f func(string)) {
	before := copiedValue(v)
	try := func(x any) {
		v.Set(reflect.ValueOf(x).Convert(v.Type()))
		f(name)
		v.Set(before)
	}
	switch v.Kind() {
	case reflect.String:
		try(before.String() + "0")
		try("0" + before.String())
	case reflect.Int:
		try(before.Int() + 1)
	case reflect.Uint8:
		try(uint8(before.Uint()) + 1)
		try(uint8(before.Uint()) ^ 0x80)
	case reflect.Struct:
		for i := range v.NumField() {
			alter(name+"."+v.Type().Field(i).Name, v.Field(i), f)
		}
	case reflect.Slice:
		alterList(v, before, try)
		for i := range v.Len() {
			alter(name+"["+strconv.Itoa(i)+"]", v.Index(i), f)
		}
	}
}

// alterList tries lists that are unlike v: with one element more, with one less, in another order.
func alterList(v, before reflect.Value, try func(any)) {
	n := v.Len()
	more := reflect.New(v.Type().Elem()).Elem()
	try(reflect.Append(copiedValue(v), more).Interface())
	try(reflect.AppendSlice(reflect.Append(reflect.MakeSlice(v.Type(), 0, n+1), more), v).Interface())
	if n > 0 {
		try(before.Slice(1, n).Interface())
		try(before.Slice(0, n-1).Interface())
	}
	for i := 1; i < n; i++ {
		other := copiedValue(v)
		reflect.Swapper(other.Interface())(i-1, i)
		if !reflect.DeepEqual(other.Interface(), before.Interface()) {
			try(other.Interface())
		}
	}
}

// eachAltered calls f with packages that are unlike p in one part alone, and the part's name.
func eachAltered(p api.Package, f func(string, api.Package)) {
	p = copied(p)
	alter("", reflect.ValueOf(&p).Elem(), func(name string) { f(name, copied(p)) })
}

// overwrite changes all parts of v where they lie, and those behind the ends of its lists, as far as there is memory.
func overwrite(v reflect.Value) {
	switch v.Kind() {
	case reflect.String:
		v.SetString("overwritten")
	case reflect.Int:
		v.SetInt(v.Int() + 7)
	case reflect.Uint8:
		v.SetUint(v.Uint() ^ 9)
	case reflect.Struct:
		for i := range v.NumField() {
			overwrite(v.Field(i))
		}
	case reflect.Slice:
		all := v.Slice(0, v.Cap())
		for i := range all.Len() {
			overwrite(all.Index(i))
		}
		v.Set(reflect.Append(v, reflect.New(v.Type().Elem()).Elem()))
	}
}

// textsIn are all texts in v.
func textsIn(v reflect.Value) []string {
	var l []string
	switch v.Kind() {
	case reflect.String:
		l = append(l, v.String())
	case reflect.Struct:
		for i := range v.NumField() {
			l = append(l, textsIn(v.Field(i))...)
		}
	case reflect.Slice:
		for i := range v.Len() {
			l = append(l, textsIn(v.Index(i))...)
		}
	}
	return l
}

// shared says whether two texts have bytes in common memory.
func shared(a, b string) bool {
	if a == "" || b == "" {
		return false
	}
	p, q := uintptr(unsafe.Pointer(unsafe.StringData(a))), uintptr(unsafe.Pointer(unsafe.StringData(b)))
	return p < q+uintptr(len(b)) && q < p+uintptr(len(a))
}

// dice are numbers that follow one another by a rule, the same each time.
type dice uint64

// roll is a number from 0 to n-1.
func (d *dice) roll(n int) int {
	*d = *d*6364136223846793005 + 1442695040888963407
	return int(uint64(*d)>>33) % n
}

// pick is one of several.
func pick[T any](d *dice, l ...T) T { return l[d.roll(len(l))] }

// listOf is a list of up to so many elements; more often it is a short one.
func listOf[T any](d *dice, most int, one func() T) []T {
	var l []T
	for range d.roll(1 + d.roll(most+1)) {
		l = append(l, one())
	}
	return l
}

// evr is an EVR; dep: of a dependency, so that it may be without a release.
func (d *dice) evr(dep bool) api.EVR {
	e := api.EVR{Epoch: pick(d, 0, 0, 0, 1), Ver: pick(d, "1", "2", "1.0", "2~rc"), Rel: pick(d, "1", "2", "01")}
	if dep && d.roll(3) == 0 {
		e.Rel = ""
	}
	return e
}

// name is a name of few.
func (d *dice) name() string { return pick(d, "a", "b", "c") }

// file is the name of a file of few.
func (d *dice) file() string { return pick(d, "/a", "/f", "/g", "/h", "/G") }

// dep is a valid dependency.
func (d *dice) dep() api.Dep {
	if d.roll(4) == 0 {
		return named(d.file())
	}
	op := pick(d, api.Any, api.Less, api.Equal, api.Greater, api.Less|api.Equal, api.Greater|api.Equal)
	if op == api.Any {
		return named(d.name())
	}
	return ranged(d.name(), op, d.evr(true))
}

// anyDep is a dependency, which may be invalid.
func (d *dice) anyDep() api.Dep {
	switch d.roll(3) {
	case 0:
		return ranged(pick(d, d.name(), d.file(), "", "if"), uint8(d.roll(256)), d.evr(true))
	case 1:
		return ranged(d.file(), pick(d, api.Any, api.Any, api.Equal, api.Less, 8, 128), pick(d, api.EVR{}, d.evr(true)))
	}
	return d.dep()
}

// rich is a rich dependency that is valid at least at Needs.
func (d *dice) rich(depth int) api.Rich {
	if depth == 0 || d.roll(2) == 0 {
		return api.Rich{Kind: api.Atom, Dep: d.dep()}
	}
	kind := pick(d, api.And, api.Or, api.With, api.Without, api.If, api.Unless)
	args := []api.Rich{d.rich(depth - 1), d.rich(depth - 1)}
	if kind == api.With || kind == api.Without {
		args = []api.Rich{d.rich(0), d.rich(0)}
	}
	return of(kind, args...)
}

// pkg is a package, valid but for a rich dependency that may stand at a position that is not its own.
func (d *dice) pkg() api.Package {
	p := api.Package{Name: d.name(), EVR: d.evr(false), Arch: uint8(1 + d.roll(4)), Vendor: pick(d, "", "v", "\xffw")}
	for _, list := range depLists {
		*list.of(&p) = listOf(d, 5, d.dep)
	}
	for _, list := range richLists {
		*list.of(&p) = listOf(d, 3, func() api.Rich { return d.rich(2 * d.roll(2)) })
	}
	p.Files = listOf(d, 5, d.file)
	slices.Sort(p.Files)
	p.Files = slices.Compact(p.Files)
	return p
}

// valid is a valid package.
func (d *dice) valid() api.Package {
	for {
		if p := d.pkg(); pkg.May(p) {
			return p
		}
	}
}

// spoil is a copy with something changed.
func (d *dice) spoil(p api.Package) api.Package {
	p = copied(p)
	changes := []func(){
		func() { p.Name = pick(d, "", "/a", "if", "a b", longest, longest+"x", "b") },
		func() { p.EVR.Epoch = pick(d, -1, api.MaxEpoch, api.MaxEpoch+1, 1) },
		func() { p.EVR.Ver = pick(d, "", "1-1", "1 ", longest, longest+"x", "2") },
		func() { p.EVR.Rel = pick(d, "", "1-1", ":", longest, longest+"x", "2") },
		func() { p.Arch = uint8(d.roll(7)) },
		func() { p.Vendor = strings.Repeat(pick(d, "v", "\xff"), api.MaxName-1+d.roll(3)) },
		func() { p.Files = append(p.Files, d.file()) },
		func() { p.Files = append(p.Files, d.name()) },
		func() { p.Files = files(api.MaxFiles - 1 + d.roll(3)) },
		func() { slices.Reverse(p.Files) },
	}
	for _, list := range depLists {
		l := list.of(&p)
		changes = append(changes, func() { *l = append(*l, d.anyDep()) }, func() { *l = slices.Repeat([]api.Dep{d.dep()}, api.MaxDeps-1+d.roll(3)) })
	}
	for _, list := range richLists {
		l := list.of(&p)
		changes = append(changes,
			func() { *l = append(*l, api.Rich{Kind: pick(d, api.Atom, api.And), Dep: d.anyDep()}) },
			func() { *l = append(*l, of(pick(d, api.If, api.Unless, api.And), d.rich(0), d.rich(0))) },
			func() { *l = slices.Repeat([]api.Rich{d.rich(0)}, api.MaxDeps-1+d.roll(3)) },
		)
	}
	changes[d.roll(len(changes))]()
	return p
}

// eachAny calls f with many packages that are grown by a rule, of which some are spoilt.
func eachAny(n int, f func(api.Package)) {
	var d dice
	for range n {
		p := d.pkg()
		f(p)
		for range d.roll(3) {
			p = d.spoil(p)
			f(p)
		}
	}
}

// The bytes of names, and of versions and releases.
var (
	nameBytes = regexp.MustCompile(`^[a-zA-Z0-9._+\-/:@~^]{1,64}$`)
	verBytes  = regexp.MustCompile(`^[a-zA-Z0-9._+~^]{1,64}$`)
	noNames   = regexp.MustCompile(`^(and|or|if|else|unless|with|without)$`)
)

// nameBy says whether a name is valid, found by other means than the program's.
func nameBy(s string) bool { return nameBytes.MatchString(s) && !noNames.MatchString(s) }

// evrBy says whether an EVR with a release is valid, found by other means than the program's.
func evrBy(e api.EVR) bool {
	return e.Epoch >= 0 && e.Epoch <= 2147483647 && verBytes.MatchString(e.Ver) && verBytes.MatchString(e.Rel)
}

// depBy says whether a dependency is valid, found by other means than the program's.
func depBy(d api.Dep) bool {
	e := d.EVR
	if e.Rel == "" {
		e.Rel = "1"
	}
	switch d.Op {
	case 0:
		return nameBy(d.Name) && d.EVR == api.EVR{}
	case 1, 2, 3, 4, 6:
		return nameBy(d.Name) && d.Name[0] != '/' && evrBy(e)
	}
	return false
}

// mayBy says whether a package is valid, found by other means than the program's: by the number of its faults.
func mayBy(p api.Package) bool {
	faults := 0
	expect := func(ok bool) {
		if !ok {
			faults++
		}
	}
	expect(nameBy(p.Name) && p.Name[0] != '/')
	expect(evrBy(p.EVR))
	expect(p.Arch == 1 || p.Arch == 2 || p.Arch == 3 || p.Arch == 4)
	expect(len(p.Vendor) < 65)
	for _, d := range slices.Concat(p.Provides, p.Obsoletes) {
		expect(depBy(d))
	}
	for _, r := range slices.Concat(p.Requires, p.Recommends, p.Suggests) {
		expect(shape.May(r, 1) == api.OK)
	}
	for _, r := range p.Conflicts {
		expect(shape.May(r, 2) == api.OK)
	}
	for _, r := range slices.Concat(p.Supplements, p.Enhances) {
		expect(shape.May(r, 3) == api.OK)
	}
	for _, file := range p.Files {
		expect(nameBy(file) && file[0] == '/')
	}
	rising := slices.Compact(slices.Sorted(slices.Values(p.Files)))
	expect(slices.Equal(rising, p.Files))
	for _, n := range []int{len(p.Provides), len(p.Obsoletes), len(p.Requires), len(p.Recommends), len(p.Suggests), len(p.Conflicts), len(p.Supplements), len(p.Enhances), len(p.Files)} {
		expect(n < 33)
	}
	return faults == 0
}

// namedBy says whether a package is named by a dependency, found by other means than the program's.
func namedBy(p api.Package, d api.Dep) bool {
	return d.Name == p.Name && span.Meet(d, ranged("", api.Equal, p.EVR))
}

// providesBy says whether a package provides a dependency, found by other means than the program's: all that it provides, name by name, stand in one list.
func providesBy(p api.Package, d api.Dep) bool {
	all := map[string][]api.Dep{p.Name: {ranged(p.Name, api.Equal, p.EVR)}}
	for _, provided := range p.Provides {
		all[provided.Name] = append(all[provided.Name], provided)
	}
	for _, file := range p.Files {
		if d.Op == 0 {
			all[file] = append(all[file], named(file))
		}
	}
	met := 0
	for _, provided := range all[d.Name] {
		if span.Meet(d, provided) {
			met++
		}
	}
	return met > 0
}

// obsoletesBy says whether p obsoletes q, found by other means than the program's.
func obsoletesBy(p, q api.Package) bool {
	met := 0
	for _, d := range p.Obsoletes {
		if namedBy(q, d) {
			met++
		}
	}
	return met > 0
}
