package codec_test

import (
	"reflect"
	"slices"
	"testing"

	"chandlery/api"
	"chandlery/codec"
)

// wantSame asks for whether both are the same, one way round and the other.
func wantSame(t *testing.T, what string, a, b codec.Data, want bool) {
	t.Helper()
	if codec.Same(a, b) != want || codec.Same(b, a) != want {
		t.Errorf("%s: Same(%v, %v): %v, %v", what, a, b, codec.Same(a, b), codec.Same(b, a))
	}
}

// some are data, valid and invalid ones, of all sorts.
func some() []codec.Data {
	l := append(small(), codec.Data{Installed: []api.Package{full()}}, codec.Data{Repos: repos(40), Installed: several(300)})
	var die dice
	for range 30 {
		l = append(l, die.data())
	}
	return l
}

// P11.1: each is the same as itself; a list that there is not is the same as an empty one.
func TestSame(t *testing.T) {
	l := some()
	for i, d := range l {
		wantSame(t, "itself", d, d, true)
		wantSame(t, "a copy", d, copied(d), true)
		wantSame(t, "with empty lists", d, emptied(d), true)
		wantSame(t, "with empty lists, both", emptied(d), emptied(copied(d)), true)
		for j, other := range l[:i] {
			wantSame(t, "another one", d, other, i == j || sameBy(d, other))
		}
	}
}

// P11.1: data that differ in one part alone are not the same, whichever part it is.
func TestSameOfUnlike(t *testing.T) {
	parts := map[string]int{}
	for _, d := range small() {
		eachAltered(d, func(name string, other codec.Data) {
			wantSame(t, name, d, other, false)
			wantSame(t, name, other, copied(other), true)
			parts[name]++
		})
	}
	for _, name := range []string{
		".Repos", ".Installed", ".Repos[0].Priority", ".Repos[1].Priority", ".Repos[0].Packages", ".Repos[0].Packages[0].Name", ".Repos[0].Packages[1].EVR.Rel", ".Repos[2].Packages[0].Arch",
		".Installed[0].Name", ".Installed[1].EVR.Epoch", ".Installed[1].Vendor", ".Installed[1].Provides[1].EVR.Ver", ".Installed[1].Requires[1].Args[1].Args[0].Dep.Name", ".Installed[1].Files[2]",
	} {
		if parts[name] == 0 {
			t.Errorf("%s has not been altered", name)
		}
	}
}

// P11.1: the same packages at other places are not the same.
func TestSameOfAlike(t *testing.T) {
	p, q := called("b"), called("c")
	l := []codec.Data{
		{Installed: []api.Package{p, q}}, {Installed: []api.Package{q, p}}, {Installed: []api.Package{p}}, {Installed: []api.Package{p, p}},
		{Repos: []api.Repo{repo(p, q)}}, {Repos: []api.Repo{repo(q, p)}}, {Repos: []api.Repo{repo(p), repo(q)}}, {Repos: []api.Repo{repo(q), repo(p)}},
		{Repos: []api.Repo{repo(p)}, Installed: []api.Package{q}}, {Repos: []api.Repo{repo(), repo(p, q)}}, {Repos: []api.Repo{repo(p, q), repo()}}, {Repos: repos(2)}, {Repos: repos(1)}, {},
		{Repos: []api.Repo{{Priority: 1}, {Priority: 2}}}, {Repos: []api.Repo{{Priority: 2}, {Priority: 1}}},
	}
	for i, a := range l {
		for j, b := range l {
			wantSame(t, "alike", a, b, i == j)
		}
	}
}

// P11.1: a copy is the same; it may be changed anywhere, and the other stays, and the other way round.
func TestCopy(t *testing.T) {
	check := func(d codec.Data) {
		before := copied(d)
		first := codec.Copy(d)
		if !sameBy(first, before) || !codec.Same(first, d) {
			t.Errorf("Copy(%v): %v", d, first)
		}
		second := codec.Copy(first)
		overwrite(reflect.ValueOf(&first).Elem())
		if !reflect.DeepEqual(d, before) || !sameBy(second, before) || codec.Same(first, d) {
			t.Errorf("changed with its copy: %v, %v, want %v", d, second, before)
		}
		third := copied(d)
		fourth := codec.Copy(third)
		overwrite(reflect.ValueOf(&third).Elem())
		if !sameBy(fourth, before) {
			t.Errorf("a copy changed with what it is of: %v, want %v", fourth, before)
		}
	}
	for _, d := range some() {
		check(d)
		check(emptied(d))
	}
}

// P11.1: a copy that is changed in one part alone, where it lies, is no longer the same, and what it is of stays.
func TestCopyChanged(t *testing.T) {
	for _, d := range small() {
		before, c := copied(d), codec.Copy(d)
		alter("", reflect.ValueOf(&c).Elem(), func(name string) {
			if codec.Same(d, c) || !reflect.DeepEqual(d, before) {
				t.Errorf("%s changed in a copy: %v, %v", name, d, c)
			}
		})
		wantSame(t, "changed back", d, c, true)
	}
}

// ask calls all functions with these arguments, and overwrites the answers.
func ask(a, b codec.Data) {
	codec.Check(a)
	codec.Same(a, b)
	c := codec.Copy(a)
	overwrite(reflect.ValueOf(&c).Elem())
	s, e := codec.Encode(a)
	if e == api.OK {
		d, _, _ := codec.Decode(s)
		overwrite(reflect.ValueOf(&d).Elem())
	}
}

// roomy is a copy of a list with memory behind its end, in which something stands.
func roomy[T any](l []T, behind ...T) []T { return append(slices.Clone(l), behind...)[:len(l)] }

// R1: what is handed in stays.
func TestArgumentsStay(t *testing.T) {
	l := some()
	for i, a := range l {
		b := l[(i+3)%len(l)]
		before, other := copied(a), copied(b)
		ask(a, b)
		if !reflect.DeepEqual(a, before) || !reflect.DeepEqual(b, other) {
			t.Errorf("%v or %v has changed", a, b)
		}
	}
}

// R1: what stands behind the ends of lists stays, too, and counts for nothing.
func TestBehindStays(t *testing.T) {
	for _, d := range some() {
		before := copied(d)
		d = copied(d)
		for i := range d.Repos {
			d.Repos[i].Packages = roomy(d.Repos[i].Packages, called("behind"), api.Package{})
		}
		d.Repos = roomy(d.Repos, api.Repo{Priority: -1})
		d.Installed = roomy(d.Installed, called("behind"), api.Package{})
		if codec.Check(d) != codec.Check(before) {
			t.Errorf("Check: %d, want %d", codec.Check(d), codec.Check(before))
		}
		s, _ := codec.Encode(d)
		if want, _ := codec.Encode(before); s != want {
			t.Errorf("Encode: %x, want %x", clip(s), clip(want))
		}
		ask(d, before)
		wantSame(t, "with memory behind", d, before, true)
		if behind := d.Repos[:len(d.Repos)+1]; behind[len(d.Repos)].Priority != -1 {
			t.Errorf("behind the repositories: %v", behind)
		}
		n := len(d.Installed)
		if behind := d.Installed[:n+2]; behind[n].Name != "behind" || !reflect.DeepEqual(behind[n+1], api.Package{}) {
			t.Errorf("behind the installed ones: %v", behind)
		}
	}
}

// wantApart asks for answers whose texts have no bytes in common memory.
func wantApart(t *testing.T, what string, a, b any) {
	t.Helper()
	for _, s := range textsIn(reflect.ValueOf(a)) {
		for _, u := range textsIn(reflect.ValueOf(b)) {
			if shared(s, u) {
				t.Errorf("%s: %q shares memory with %q", what, s, u)
			}
		}
	}
}

// R1: answers share no memory with what is handed in, nor with one another.
func TestAnswersAreNew(t *testing.T) {
	t.Parallel()
	var die dice
	l := append(small()[:5], codec.Data{Repos: repos(16), Installed: several(20)})
	for range 40 {
		l = append(l, die.data())
	}
	for _, d := range l {
		s, _ := codec.Encode(d)
		u, _ := codec.Encode(d)
		wantApart(t, "Encode", s, d)
		wantApart(t, "Encode twice", s, u)
		first, _, _ := codec.Decode(s)
		second, _, _ := codec.Decode(s)
		third, fourth := codec.Copy(d), codec.Copy(d)
		wantApart(t, "Decode", first, s)
		wantApart(t, "Decode twice", first, second)
		wantApart(t, "Copy", third, d)
		wantApart(t, "Copy twice", third, fourth)
		before := copied(d)
		overwrite(reflect.ValueOf(&first).Elem())
		overwrite(reflect.ValueOf(&third).Elem())
		if !sameBy(second, before) || !sameBy(fourth, before) || !reflect.DeepEqual(d, before) {
			t.Errorf("another answer has changed: %v, %v, want %v", second, fourth, before)
		}
	}
}

// slicesIn calls f with all lists in v, each as far as there is memory.
func slicesIn(v reflect.Value, f func(reflect.Value)) {
	switch v.Kind() {
	case reflect.Struct:
		for i := range v.NumField() {
			slicesIn(v.Field(i), f)
		}
	case reflect.Slice:
		f(v)
		for i := range v.Len() {
			slicesIn(v.Index(i), f)
		}
	}
}

// R1: no two lists of one answer share memory, though those that were handed in do.
func TestListsAreApart(t *testing.T) {
	p := ordinary()
	p.Recommends, p.Suggests = p.Requires, p.Requires
	p.Enhances = p.Supplements
	p.Obsoletes = p.Provides
	packages := []api.Package{p, p}
	d := codec.Data{Repos: []api.Repo{repo(packages...), repo(packages...)}, Installed: packages}
	decoded, _, e := codec.Decode(bytesBy(d))
	if e != api.OK {
		t.Fatal("Decode:", e)
	}
	for _, answer := range []codec.Data{decoded, codec.Copy(d)} {
		lists := map[uintptr]int{} // by the places in memory
		slicesIn(reflect.ValueOf(answer), func(v reflect.Value) {
			size := v.Type().Elem().Size()
			for i := range uintptr(v.Cap()) {
				place := v.Pointer() + i*size
				lists[place]++
				if lists[place] > 1 {
					t.Errorf("two lists in one memory: %v", v)
				}
			}
		})
		want := copied(d)
		answer.Installed[0].Requires[1].Args[0] = atom("changed")
		answer.Installed[0].Provides[0] = named("changed")
		answer.Installed[1].Files[0] = "/changed"
		answer.Repos[0].Packages = append(answer.Repos[0].Packages, called("behind"))
		want.Installed[0].Requires[1].Args[0] = atom("changed")
		want.Installed[0].Provides[0] = named("changed")
		want.Installed[1].Files[0] = "/changed"
		want.Repos[0].Packages = append(want.Repos[0].Packages, called("behind"))
		if !sameBy(answer, want) {
			t.Errorf("changed along with another list: %v, want %v", answer, want)
		}
	}
}

// Limits: rich dependencies that are very deep, and very many packages, though they are far from valid.
func TestCopyOfLarge(t *testing.T) {
	t.Parallel()
	for _, list := range richLists {
		p, q := called("b"), called("b")
		*list.of(&p) = []api.Rich{deep(1<<16-1, true)}
		*list.of(&q) = []api.Rich{of(api.And, deep(1<<16-2, true), atom("d"))}
		d, other := codec.Data{Repos: []api.Repo{repo(p)}}, codec.Data{Repos: []api.Repo{repo(q)}}
		c := codec.Copy(d)
		if !codec.Same(c, d) || codec.Same(c, other) {
			t.Errorf("very deep %s", list.name)
		}
	}
	for _, d := range []codec.Data{{Installed: several(1 << 16)}, {Repos: repos(1 << 16)}, {Repos: []api.Repo{repo(), repo(several(1 << 16)...)}}} {
		c := codec.Copy(d)
		if !codec.Same(c, d) {
			t.Error("very many")
		}
	}
	d := codec.Data{Repos: []api.Repo{repo(several(1 << 16)...)}}
	c := codec.Copy(d)
	c.Repos[0].Packages[1<<16-1].Name = "other"
	if codec.Same(c, d) || codec.Same(codec.Data{Repos: d.Repos[:0]}, d) {
		t.Error("very many, the last one unlike")
	}
}
