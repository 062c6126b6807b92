package pkg_test

import (
	"slices"
	"testing"

	"chandlery/api"
	"chandlery/pkg"
)

// P10.3: a valid package provides its own dependency, and is named by it; whatever names it, it provides.
func TestItself(t *testing.T) {
	check := func(p api.Package) {
		own := pkg.Own(p)
		want(t, "its own", p, own, true, true)
		other := p
		other.Name += "o"
		want(t, "its own, under another name", other, own, providesBy(other, own), false)
	}
	for _, p := range []api.Package{plain(), ordinary(), full()} {
		check(p)
	}
	var d dice
	n := map[bool]int{}
	for range 5000 {
		p := d.valid()
		check(p)
		for range 10 {
			asked := d.anyDep()
			n[pkg.Named(p, asked)]++
			if pkg.Named(p, asked) && !pkg.Provides(p, asked) {
				t.Errorf("%v is named by %v, and does not provide it", p, asked)
			}
		}
	}
	if n[true] < 3000 || n[false] < 3000 {
		t.Errorf("%v: too few", n)
	}
}

// P10.4: what a package without Provides and Files provides is what names it.
func TestBare(t *testing.T) {
	var d dice
	n := map[bool]int{}
	eachAny(5000, func(p api.Package) {
		bare := copied(p)
		bare.Provides, bare.Files = nil, nil
		for range 10 {
			asked := d.anyDep()
			n[pkg.Provides(bare, asked)]++
			if pkg.Provides(bare, asked) != pkg.Named(bare, asked) || pkg.Named(bare, asked) != pkg.Named(p, asked) {
				t.Errorf("%v, without Provides and Files, provides %v: %v", p, asked, pkg.Provides(bare, asked))
			}
		}
	})
	if n[true] < 3000 || n[false] < 3000 {
		t.Errorf("%v: too few", n)
	}
}

// P10.4: with one more Provides, or file, a package provides no less, and more only what that one provides; it is named by the same.
func TestMoreProvided(t *testing.T) {
	var d dice
	n := map[bool]int{}
	eachAny(5000, func(p api.Package) {
		q := copied(p)
		alone := api.Package{Name: "none"} // asked for by nobody
		if d.roll(2) == 0 {
			alone.Files = []string{d.file()}
			q.Files = slices.Insert(q.Files, d.roll(len(q.Files)+1), alone.Files[0])
		} else {
			alone.Provides = []api.Dep{d.anyDep()}
			q.Provides = slices.Insert(q.Provides, d.roll(len(q.Provides)+1), alone.Provides[0])
		}
		for range 10 {
			asked := d.anyDep()
			before, after := pkg.Provides(p, asked), pkg.Provides(q, asked)
			if after != (before || pkg.Provides(alone, asked)) || pkg.Named(p, asked) != pkg.Named(q, asked) {
				t.Errorf("%v, of %v and %v: %v, of both %v", asked, p, alone, before, after)
			}
			if !before {
				n[after]++
			}
		}
	})
	if n[true] < 1000 || n[false] < 1000 {
		t.Errorf("%v: too few", n)
	}
}

// P10.5: a valid package without any one of its dependencies, or files, is valid.
func TestParts(t *testing.T) {
	n := 0
	check := func(p api.Package) {
		without := func(what string, p api.Package) {
			n++
			wantMay(t, "without one of "+what, p, true)
		}
		for _, list := range depLists {
			for i, l := 0, *list.of(&p); i < len(l); i++ {
				other := p
				*list.of(&other) = slices.Delete(slices.Clone(l), i, i+1)
				without(list.name, other)
			}
		}
		for _, list := range richLists {
			for i, l := 0, *list.of(&p); i < len(l); i++ {
				other := p
				*list.of(&other) = slices.Delete(slices.Clone(l), i, i+1)
				without(list.name, other)
			}
		}
		for i := range p.Files {
			other := p
			other.Files = slices.Delete(slices.Clone(p.Files), i, i+1)
			without("Files", other)
		}
	}
	check(ordinary())
	check(full())
	var d dice
	for range 3000 {
		check(d.valid())
	}
	if n < 10000 {
		t.Errorf("%d: too few", n)
	}
}

// P10.6: which packages a package obsoletes depends only on their Name and EVR.
func TestObsoletesByName(t *testing.T) {
	var d dice
	n := map[bool]int{}
	last := ordinary()
	eachAny(10000, func(p api.Package) {
		q := d.spoil(d.pkg())
		same := pkg.Copy(last)
		same.Name, same.EVR = q.Name, q.EVR
		bare := api.Package{Name: q.Name, EVR: q.EVR}
		obsolete := pkg.Obsoletes(p, q)
		if pkg.Obsoletes(p, same) != obsolete || pkg.Obsoletes(p, bare) != obsolete {
			t.Errorf("%v obsoletes %v: %v; with another rest: %v, %v", p, q, obsolete, pkg.Obsoletes(p, same), pkg.Obsoletes(p, bare))
		}
		n[obsolete]++
		if pkg.Obsoletes(api.Package{Obsoletes: p.Obsoletes}, q) != obsolete { // and of p on its Obsoletes alone
			t.Errorf("%v: obsoletes by more than its Obsoletes", p)
		}
		last = p
	})
	if n[true] < 1000 || n[false] < 1000 {
		t.Errorf("%v: too few", n)
	}
}
