package rules

import (
	"testing"

	"chandlery/api"
	"chandlery/ask"
	"chandlery/norm"
	"chandlery/pool"
)

// cram fills a table until so many helpers are left: each of them is that of a set of three packages.
func cram(t *testing.T, x *norm.Table, packages, left int) {
	t.Helper()
	for a := range packages {
		for b := range a {
			for c := range b {
				if x.Vars() == packages+norm.MaxHelpers-left {
					return
				}
				if lit, e := x.Any([]int{a, b, c}, nobody); e != api.OK || lit == 0 {
					t.Fatalf("any of %d, %d and %d: %d, %d", a, b, c, lit, e)
				}
			}
		}
	}
	t.Fatalf("%d variables", x.Vars())
}

// P18.1: the error of norm.Lit is that of the rule book, whichever item it comes from. No valid request needs so many helpers, so a table is handed in that has nearly as many as there may be.
func TestNewTooLarge(t *testing.T) {
	nest := func(kind uint8) api.Rich {
		x := api.Rich{Kind: api.Atom, Dep: api.Dep{Name: "x"}}
		return api.Rich{Kind: kind, Args: []api.Rich{x, x}}
	}
	var l []api.Package
	for range api.MaxPackages {
		l = append(l, api.Package{Name: "a", EVR: api.EVR{Ver: "1", Rel: "1"}, Arch: api.NoArch})
	}
	l[0].Requires, l[0].Conflicts = []api.Rich{nest(api.Or)}, []api.Rich{nest(api.And)}
	l[9].Requires, l[5].Conflicts = []api.Rich{nest(api.And)}, []api.Rich{nest(api.Or)}
	l[api.MaxPackages-1].Name = "b"
	l[200].Requires = []api.Rich{{Kind: api.Atom, Dep: api.Dep{Name: "b"}}} // which needs no helper, behind what does not fit
	p, e := pool.New(nil, l)
	if e != api.OK {
		t.Fatal(e)
	}
	a, e := ask.New(p, api.Request{Arch: api.X8664, Jobs: []api.Job{{Kind: api.Install, Dep: api.Dep{Name: "a"}}}})
	if e != api.OK {
		t.Fatal(e)
	}
	x, e := norm.New(p)
	if e != api.OK {
		t.Fatal(e)
	}
	cram(t, x, api.MaxPackages, 4)
	if r, e := bookOf(a, x); r != nil || e != api.ErrTooLarge { // one helper for x, and one for each of four
		t.Errorf("%v, %d, want the error %d", r, e, api.ErrTooLarge)
	}
}
