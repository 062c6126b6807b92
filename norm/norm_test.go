package norm_test

import (
	"slices"
	"strconv"
	"strings"
	"testing"

	"chandlery/api"
	"chandlery/norm"
	"chandlery/pool"
	"chandlery/shape"
)

// wantStates asks for a literal, over all states of the packages, that is true just in those that satisfy what a text says, by words of the test's own, whatever package is left out.
func wantStates(t *testing.T, in input, s string, want func(state []int) bool) {
	t.Helper()
	r := read(s)
	count := len(in.all())
	shared := bookOf(t, in)
	for _, but := range append(absent(count), numbers(0, count)...) {
		fresh := bookOf(t, in)
		for _, b := range []*book{fresh, shared} {
			lit := b.lit(r, but)
			for _, state := range states(count) {
				v := settle(t, count, b.vars, b.clauses, state)
				if yes := want(without(state, but)); v.of(lit) > 0 != yes {
					t.Errorf("%v: %s without %d: want %v; %d of %v", state, s, but, yes, lit, b.clauses)
				}
			}
		}
	}
	shared.check(states(count))
}

// anyOf says of a state whether one of these packages is in it.
func anyOf(l ...int) func([]int) bool {
	return func(state []int) bool {
		return slices.ContainsFunc(l, func(n int) bool { return slices.Contains(state, n) })
	}
}

// P17.1, P17.2: the chapter's example.
func TestExample(t *testing.T) {
	for _, in := range spread(at("a", "1"), having("b", "a"), at("c", "1")) {
		b := bookOf(t, in)
		if lit := b.lit(read("a"), -1); variable(lit) != 3 || b.vars != 4 || len(b.clauses) == 0 {
			t.Errorf("a: %d, %d variables, %v", lit, b.vars, b.clauses)
		}
		if lit := b.lit(read("a"), 1); lit != 1 {
			t.Errorf("a without 1: %d", lit)
		}
		if lit := b.lit(read("a"), 0); lit != 2 {
			t.Errorf("a without 0: %d", lit)
		}
		if lit := b.lit(read("other"), -1); variable(lit) != 4 || b.vars != 5 {
			t.Errorf("other: %d, %d variables", lit, b.vars)
		}
		if yes, no := b.check(states(3)); yes != 6+4+4 || no != 2+4+4+8 {
			t.Errorf("%d and %d", yes, no)
		}
	}
}

// P17.1, P17.2: no pool, and a table of nil.
func TestNil(t *testing.T) {
	if x, e := norm.New(nil); x != nil || e != api.ErrNil {
		t.Errorf("New(nil): %v, %d", x, e)
	}
	var none *norm.Table
	for what, r := range map[string]api.Rich{"an Atom": atom("a"), "what is not valid": {}, "And": read("(a and b)"), "If": read("(a if b)")} {
		for _, but := range []int{-1, 0, 1} {
			if lit, e := none.Lit(r, but); lit != 0 || e != api.ErrNil {
				t.Errorf("Lit of %s: %d, %d", what, lit, e)
			}
		}
	}
	for _, l := range [][]int{nil, {}, {0}, {-1}, {0, 1, 1 << 40}} {
		if lit, e := none.Any(l, -1); lit != 0 || e != api.ErrNil {
			t.Errorf("Any of %v: %d, %d", l, lit, e)
		}
	}
	if none.Vars() != 0 || len(none.Clauses()) != 0 {
		t.Errorf("%d, %v", none.Vars(), none.Clauses())
	}
}

// P17.1, P17.2: of a pool of nothing there is the empty state alone.
func TestNothing(t *testing.T) {
	empty := input{}
	for _, in := range []input{empty, {repos: make([]api.Repo, api.MaxRepos)}} {
		for s, want := range map[string]bool{"x": false, "(x and y)": false, "(x or y)": false, "(x if y)": true, "(x if y else z)": false, "(x unless y)": false, "(x unless y else z)": false, "(x with y)": false, "(x without y)": false, "((x if y) if (y if x))": true, "((x if y) and (y if z))": true, "(z unless (x if y) else (y if x))": true} {
			wantStates(t, in, s, func([]int) bool { return want })
		}
	}
	b := bookOf(t, empty)
	b.any(nil, -1)
	b.any([]int{}, 0)
	if yes, no := b.check(states(0)); yes != 0 || no != 2 {
		t.Errorf("%d and %d", yes, no)
	}
	p := new(pool.Pool)
	if x, e := norm.New(p); x == nil || e != api.OK || x.Vars() != 0 {
		t.Errorf("a pool that no New returned: %v, %d", x, e)
	}
}

// R1: nothing panics of a table that no New returned; it is one of no packages.
func TestOfNoNew(t *testing.T) {
	x := new(norm.Table)
	b := &book{t: t, x: x}
	b.any(nil, 0)
	b.lit(read("(x if (y or z))"), 0)
	lit, e := x.Any([]int{0}, -1)
	b.refused("Any of no package's", lit, e, api.ErrArg)
	b.check(states(0))
}

// P17.1, P17.3: each Kind, without and with an else, alone and nested, over all states of three packages, each of which provides a name of its own.
func TestKinds(t *testing.T) {
	const all = ". 0 1 2 01 02 12 012"
	in := half(having("a", "x"), having("b", "y"), having("c", "z"))
	for s, want := range map[string]string{
		"x":                                 "0 01 02 012",
		"y":                                 "1 01 12 012",
		"z":                                 "2 02 12 012",
		"other":                             "",
		"(x and y)":                         "01 012",
		"(y and x)":                         "01 012",
		"(x and y and z)":                   "012",
		"(z and z and z and y)":             "12 012",
		"(x and other)":                     "",
		"(x or y)":                          "0 1 01 02 12 012",
		"(x or other)":                      "0 01 02 012",
		"(other or z)":                      "2 02 12 012",
		"(x or y or z)":                     "0 1 2 01 02 12 012",
		"(x or x)":                          "0 01 02 012",
		"(x if y)":                          ". 0 2 01 02 012",
		"(y if x)":                          ". 1 2 01 12 012",
		"(x if x)":                          all,
		"(x if other)":                      all,
		"(other if x)":                      ". 1 2 12",
		"(x if y else z)":                   "2 01 02 012",
		"(z if x else y)":                   "1 12 02 012",
		"(x if y else y)":                   "01 012",
		"(x if x else y)":                   "0 1 01 02 12 012",
		"(x if x else x)":                   "0 01 02 012",
		"(x if y else other)":               "01 012",
		"(other if y else z)":               "2 02",
		"(x unless y)":                      "0 02",
		"(x unless x)":                      "",
		"(x unless other)":                  "0 01 02 012",
		"(other unless x)":                  "",
		"(x unless y else z)":               "0 02 12 012",
		"(z unless x else y)":               "2 12 01 012",
		"(x unless y else y)":               "0 1 01 02 12 012",
		"(x unless x else y)":               "01 012",
		"(x unless x else x)":               "0 01 02 012",
		"(x unless y else other)":           "0 02",
		"(x with y)":                        "",
		"(x with x)":                        "0 01 02 012",
		"(x with x with y)":                 "",
		"(x without y)":                     "0 01 02 012",
		"(x without x)":                     "",
		"(x without other)":                 "0 01 02 012",
		"(other without x)":                 "",
		"((x and y) or z)":                  "2 01 02 12 012",
		"(x and (y or z))":                  "01 02 012",
		"((x or y) and (y or z))":           "1 01 02 12 012",
		"((x if y) if z)":                   ". 0 1 2 01 02 012",
		"(x if (y if z))":                   "0 2 01 02 012",
		"((x unless y) unless z)":           "0",
		"(x unless (y unless z))":           "0 02 012",
		"(x if y else (z if x else y))":     "01 02 012",
		"((x or y) unless (x and y))":       "0 1 02 12",
		"((x if y else z) unless z else y)": "01 12 012",
		"((x with x) if (y without z))":     ". 0 2 01 02 012",
		"((x if y) and (y if x))":           ". 2 01 012",
		"((x if y) or (z unless x))":        ". 0 2 01 02 12 012",
	} {
		wantStates(t, in, s, func(state []int) bool {
			return slices.ContainsFunc(strings.Fields(want), func(one string) bool { return slices.Equal(digits(one), state) })
		})
	}
}

// P17.1, P17.3: what a single package must satisfy alone, over all states of four packages, some of which provide several names.
func TestSingles(t *testing.T) {
	in := half(having("a", "x"), having("b", "y"), having("c", "x", "y"), having("d", "x", "y", "z"))
	for s, want := range map[string][]int{
		"x":                                     {0, 2, 3},
		"z":                                     {3},
		"other":                                 nil,
		"(x with y)":                            {2, 3},
		"(y with x)":                            {2, 3},
		"(x with y with z)":                     {3},
		"(x with y with other)":                 nil,
		"(other with x)":                        nil,
		"(x without y)":                         {0},
		"(y without x)":                         {1},
		"(x without z)":                         {0, 2},
		"(z without x)":                         nil,
		"((x with y) without z)":                {2},
		"((x without z) with y)":                {2},
		"(x with (y without z))":                {2},
		"(x without (y with z))":                {0, 2},
		"(x without (y without z))":             {0, 3},
		"(x with (y or z))":                     {2, 3},
		"(x without (y or z))":                  {0},
		"(y without (x and z))":                 {1, 2},
		"((x or y) without (x and y))":          {0, 1},
		"((x or y or z) with (x or y))":         {0, 1, 2, 3},
		"((x and y and z) with x)":              {3},
		"((x and y) with (x or z))":             {2, 3},
		"((x with y) with (y with x))":          {2, 3},
		"((x without z) without (y without z))": {0},
		"((x or other) without (other and x))":  {0, 2, 3},
	} {
		wantStates(t, in, s, anyOf(want...))
	}
}

// P17.1, P17.3: what a single package must satisfy, as a part of what the whole state must satisfy.
func TestSinglesWithin(t *testing.T) {
	in := half(having("a", "x"), having("b", "y"), having("c", "x", "y"), having("d", "x", "y", "z"))
	for s, want := range map[string]func(is func(...int) bool) bool{
		"((x with y) and (x without y))":              func(is func(...int) bool) bool { return is(2, 3) && is(0) },
		"((x without y) or (y without x))":            func(is func(...int) bool) bool { return is(0, 1) },
		"((x with y) unless z)":                       func(is func(...int) bool) bool { return is(2, 3) && !is(3) },
		"((x with y) if z else (x without y))":        func(is func(...int) bool) bool { return is(3) || is(0) },
		"(z if (x with y))":                           func(is func(...int) bool) bool { return is(3) || !is(2) },
		"(z unless (y without x))":                    func(is func(...int) bool) bool { return is(3) && !is(1) },
		"(z unless (y without x) else (x without y))": func(is func(...int) bool) bool { return is(1) && is(0) || !is(1) && is(3) },
		"(x and (x with z))":                          func(is func(...int) bool) bool { return is(3) },
	} {
		wantStates(t, in, s, func(state []int) bool {
			return want(func(l ...int) bool { return anyOf(l...)(state) })
		})
	}
}

// P17.1: packages of one name, in several versions, what they provide more than once, and files.
func TestProviders(t *testing.T) {
	in := half(at("a", "1"), at("a", "2"), filed(at("a", "3"), "/f", "/g"), filed(providing(at("b", "1"), ranged("a", api.Equal, "2"), ranged("a", api.Less, "2")), "/f"))
	for s, want := range map[string][]int{
		"a": {0, 1, 2, 3}, "b": {3}, "a = 2": {1, 3}, "a > 2": {2}, "a >= 2": {1, 2, 3}, "a < 2": {0, 3}, "a <= 2": {0, 1, 3}, "a = 2-2": {3}, "a > 3": nil,
		"/f": {2, 3}, "/g": {2}, "/h": nil, "f": nil,
		"(a with b)": {3}, "(a without b)": {0, 1, 2}, "(/f with /g)": {2}, "(/f without /g)": {3}, "(a < 2 with a = 2)": {3},
	} {
		wantStates(t, in, s, anyOf(want...))
	}
	wantStates(t, in, "(a = 1 and a = 3)", func(state []int) bool { return anyOf(0, 3)(state) && anyOf(2)(state) })
	wantStates(t, in, "(/g unless a = 2)", func(state []int) bool { return anyOf(2)(state) && !anyOf(1, 3)(state) })
}

// P17.1: what a package requires, conflicts with, obsoletes and so on it does not provide.
func TestOtherLists(t *testing.T) {
	p, l := at("a", "1"), []api.Rich{atom("x")}
	p.Requires, p.Conflicts, p.Recommends, p.Supplements, p.Suggests, p.Enhances = l, l, l, l, l, l
	p.Obsoletes, p.Vendor = []api.Dep{named("x")}, "x"
	wantStates(t, half(p, at("x", "1")), "x", anyOf(1))
}

// P17.1: of a single package the literal is that one's own, for an Atom and for Any, with and without one left out.
func TestOwn(t *testing.T) {
	for _, in := range spread(having("a", "x"), having("b", "x", "y"), having("c", "x", "y")) {
		b := bookOf(t, in)
		for _, c := range []struct {
			s         string
			but, want int
		}{{"a", -1, 1}, {"b", -1, 2}, {"c", 3, 3}, {"a", 1, 1}, {"c", 0, 3}, {"y", 1, 3}, {"y", 2, 2}} {
			if lit := b.lit(read(c.s), c.but); lit != c.want {
				t.Errorf("%s without %d: %d, want %d", c.s, c.but, lit, c.want)
			}
		}
		for _, c := range []struct {
			l         []int
			but, want int
		}{
			{[]int{0}, -1, 1}, {[]int{1}, 0, 2}, {[]int{2, 2, 2}, -1, 3}, {[]int{2}, 3, 3}, {[]int{1, 2}, 1, 3}, {[]int{2, 1}, 2, 2}, {[]int{0, 2, 0, 2, 0}, 2, 1}, {[]int{1, 1, 0}, 1, 1},
		} {
			if lit := b.any(c.l, c.but); lit != c.want {
				t.Errorf("any of %v without %d: %d, want %d", c.l, c.but, lit, c.want)
			}
		}
		b.check(states(3))
	}
}

// P17.1, P17.3: lists of none, of one, of several packages, with repeated numbers, over all states of four packages.
func TestAny(t *testing.T) {
	for _, in := range spread(at("a", "1"), at("a", "1"), at("b", "1"), at("c", "1")) {
		for _, l := range [][]int{nil, {}, {0}, {3}, {3, 3}, {0, 1}, {1, 0}, {1, 0, 1, 1}, {0, 1, 2}, {2, 0, 3}, {3, 2, 1, 0}, {3, 2, 1, 0, 0, 1, 2, 3}, slices.Repeat([]int{2, 1}, 1000)} {
			shared := bookOf(t, in)
			for _, but := range append(absent(4), 0, 1, 2, 3) {
				fresh := bookOf(t, in)
				for _, b := range []*book{fresh, shared} {
					lit := b.any(l, but)
					for _, state := range states(4) {
						v := settle(t, 4, b.vars, b.clauses, state)
						if yes := anyOf(without(l, but)...)(state); v.of(lit) > 0 != yes {
							t.Errorf("%v: any of %v without %d: want %v; %d of %v", state, l, but, yes, lit, b.clauses)
						}
					}
				}
			}
		}
	}
}

// P17.6: a set of packages has one helper, however it is told, and one of its own.
func TestOneHelper(t *testing.T) {
	b := bookOf(t, half(slices.Repeat([]api.Package{at("a", "1")}, 5)...))
	seen := map[int][]int{}
	for _, set := range states(5) {
		if len(set) == 1 {
			continue
		}
		before := b.vars
		lit := b.any(set, -1)
		if b.vars != before+1 || variable(lit) != before {
			t.Errorf("%v: %d, %d variables, before it %d", set, lit, b.vars, before)
		}
		if l, ok := seen[variable(lit)]; ok {
			t.Errorf("%v and %v: %d", set, l, lit)
		}
		seen[variable(lit)] = set
		turned := slices.Clone(set)
		slices.Reverse(turned)
		for _, l := range [][]int{set, turned, slices.Concat(set, turned, set)} {
			for _, but := range append(absent(5), numbers(0, 5)...) {
				more := slices.Clone(l)
				switch {
				case slices.Contains(set, but):
					continue
				case but >= 0 && but < 5:
					more = append(more, but)
				}
				if same := b.any(more, but); same != lit {
					t.Errorf("%v without %d: %d, and %v: %d", more, but, same, set, lit)
				}
			}
		}
		if b.vars != before+1 {
			t.Errorf("%v, told again: %d variables, before it %d", set, b.vars, before+1)
		}
	}
	b.check(states(5))
}

// invalid are rich dependencies that are not valid at Needs.
func invalid() map[string]api.Rich {
	own := of(api.And, atom("x"), atom("x"))
	own.Args[1] = own
	deep := atom("x")
	for range api.MaxNest + 1 {
		deep = of(api.Or, deep, atom("x"))
	}
	args := atom("x")
	args.Args = []api.Rich{atom("x")}
	withDep := of(api.And, atom("x"), atom("y"))
	withDep.Dep = named("x")
	l := map[string]api.Rich{
		"nothing":                  {},
		"Kind 0":                   of(0, atom("x"), atom("y")),
		"Kind 8":                   of(8, atom("x"), atom("y")),
		"Kind 255":                 of(255, atom("x"), atom("y")),
		"an Atom without a Dep":    {Kind: api.Atom},
		"an Atom with Args":        args,
		"an Op that there is not":  {Kind: api.Atom, Dep: ranged("x", 5, "1")},
		"a name that is a word":    atom("if"),
		"a file with a version":    {Kind: api.Atom, Dep: ranged("/f", api.Equal, "1")},
		"And with a Dep":           withDep,
		"If of four":               of(api.If, atom("x"), atom("x"), atom("x"), atom("x")),
		"Unless of four":           of(api.Unless, atom("x"), atom("x"), atom("x"), atom("x")),
		"Without of three":         of(api.Without, atom("x"), atom("x"), atom("x")),
		"If within With":           of(api.With, atom("x"), read("(x if y)")),
		"Unless within Without":    of(api.Without, read("(x unless y)"), atom("x")),
		"If deep within With":      of(api.With, atom("x"), of(api.Or, atom("y"), read("(x if y else z)"))),
		"If within With within If": of(api.If, of(api.With, atom("x"), read("(x if y)")), atom("x")),
		"too large":                of(api.Or, slices.Repeat([]api.Rich{atom("x")}, api.MaxNodes)...),
		"too deep":                 deep,
		"what contains itself":     own,
	}
	for kind := api.And; kind <= api.Without; kind++ {
		l["none of Kind "+strconv.Itoa(int(kind))] = of(kind)
		l["one of Kind "+strconv.Itoa(int(kind))] = of(kind, atom("x"))
	}
	return l
}

// P17.1: a rich dependency that is not valid at Needs is ErrForm, and a number that is no package's ErrArg, wherever it stands; they make nothing, and what is asked for afterwards is as if they had not been.
func TestErrors(t *testing.T) {
	in := half(having("a", "x"), having("b", "x", "y"), having("c", "y", "z"))
	b, calm := bookOf(t, in), bookOf(t, in)
	same := func(what string, lit, want int) {
		t.Helper()
		if lit != want || b.vars != calm.vars || !sameLists(b.clauses, calm.clauses) {
			t.Errorf("%s: %d, want %d; %d and %d variables; %v, %v", what, lit, want, b.vars, calm.vars, b.clauses, calm.clauses)
		}
	}
	for what, r := range invalid() {
		if shape.May(r, shape.Needs) == api.OK {
			t.Errorf("%s is valid", what)
		}
		for _, but := range []int{-1, 0, 2, 3} {
			lit, e := b.x.Lit(r, but)
			b.refused(what, lit, e, api.ErrForm)
		}
		for _, s := range []string{"x", "(x or y)", "(x if y else z)", "(y unless x)"} {
			same("after "+what+": "+s, b.lit(read(s), 1), calm.lit(read(s), 1))
		}
		lit, e := b.x.Lit(of(api.Or, read("(x and y)"), r), -1)
		b.refused(what+" as an Arg", lit, e, api.ErrForm)
	}
	for _, n := range absent(3) {
		for _, l := range [][]int{{n}, {n, n}, {0, n}, {n, 0, 1}, {0, 1, n}, {0, 1, 2, 2, n, 1}} {
			for _, but := range []int{-1, 0, n, 3} {
				lit, e := b.x.Any(l, but)
				b.refused("any of "+strconv.Itoa(n), lit, e, api.ErrArg)
			}
		}
		same("after "+strconv.Itoa(n), b.any([]int{0, 1, 2}, n), calm.any([]int{0, 1, 2}, n))
	}
	b.check(states(3))
}

// P17.1: what is valid at Needs alone, and what is valid at Clash and Needs.
func TestPositions(t *testing.T) {
	in := half(having("a", "x"), having("b", "y"))
	wantStates(t, in, "((x if y) unless (y if x))", func(state []int) bool { return anyOf(0)(state) && !anyOf(1)(state) })
	wantStates(t, in, "(x unless y)", func(state []int) bool { return anyOf(0)(state) && !anyOf(1)(state) })
}

// P17.1, P17.6: as many parts as there may be, as deep as there may be.
func TestMuch(t *testing.T) {
	in := half(having("a", "x"), having("b", "x", "y"), having("c", "y", "z"))
	wide := func(kind uint8) api.Rich {
		l := slices.Repeat([]api.Rich{atom("x"), atom("y")}, api.MaxNodes)
		return of(kind, l[:api.MaxNodes-1]...)
	}
	b := bookOf(t, in)
	for _, kind := range []uint8{api.And, api.Or, api.With} {
		b.lit(wide(kind), -1)
		b.lit(wide(kind), 1)
	}
	for kind := api.And; kind <= api.Without; kind++ {
		for _, first := range []bool{true, false} {
			r := atom("x")
			for i := range api.MaxNest {
				args := []api.Rich{r, atom([]string{"y", "z", "x", "other"}[i%4])}
				if !first {
					slices.Reverse(args)
				}
				r = of(kind, args...)
			}
			b.lit(r, -1)
			b.lit(r, 2)
		}
	}
	r := atom("x")
	for i := range 7 {
		kind := []uint8{api.If, api.Unless}[i%2]
		r = of(kind, []api.Rich{atom("y"), r, atom("z")}...)
	}
	b.lit(r, -1)
	b.check(states(3))
}

// P17.1, P17.3: as many packages as there may be.
func TestGreat(t *testing.T) {
	var l []api.Package
	for n := range api.MaxPackages {
		p := having("p"+strconv.Itoa(n), "x")
		if n%2 == 0 {
			p.Provides = append(p.Provides, named("even"))
		}
		l = append(l, p)
	}
	b := bookOf(t, half(l...))
	border := []int{0, 1, 31, 32, 62, 63, 64, 65, 127, 128, 129, 191, 192, 193, 254, 255}
	for _, n := range border {
		if lit := b.lit(atom("p"+strconv.Itoa(n)), -1); lit != n+1 {
			t.Errorf("p%d: %d", n, lit)
		}
		if lit := b.any([]int{n, n}, n+1); lit != n+1 {
			t.Errorf("any of %d: %d", n, lit)
		}
		b.lit(read("(x without p"+strconv.Itoa(n)+")"), -1)
		b.lit(atom("x"), n)
		b.any(border, n)
		b.any(numbers(0, n), -1)
		b.any(numbers(n, 256), -1)
	}
	b.lit(read("(x with even)"), 64)
	b.lit(read("(even if p63 else (x without even))"), 255)
	b.any(numbers(0, 256), -1)
	all := [][]int{nil, border, numbers(0, 256)}
	for _, n := range border {
		all = append(all, []int{n}, without(numbers(0, 256), n), without(border, n))
	}
	b.check(all)
}
