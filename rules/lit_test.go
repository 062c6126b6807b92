package rules_test

import (
	"slices"
	"strconv"
	"strings"
	"testing"

	"chandlery/api"
	"chandlery/norm"
	"chandlery/rules"
	"chandlery/shape"
)

// wantLit asks for the literal of a rich dependency; what there was stays, and there are at most as many variables more as it has parts.
func wantLit(t *testing.T, r *rules.Rules, d api.Rich) int {
	t.Helper()
	before := answersOf(r)
	lit, e := r.Lit(d)
	if e != api.OK || lit == 0 || variable(lit) >= r.Vars() || r.Vars() > before.vars+shape.Count(d) {
		t.Fatalf("Lit of %v: %d, %d; %d variables, before it %d", d, lit, e, r.Vars(), before.vars)
	}
	wantGrown(t, "behind a Lit", answersOf(r), before)
	return lit
}

// digits are the numbers of a text, each a digit; a point is no number.
func digits(s string) []int {
	var l []int
	for _, one := range strings.Trim(s, ".") {
		l = append(l, int(one-'0'))
	}
	return l
}

// P18.2, P18.4: Lit of each Kind, over all states of three packages: 0 provides x, 1 provides y, 2 provides both and z.
func TestLit(t *testing.T) {
	in := input{[]api.Repo{repo(providing(at("c", "1"), named("x"), named("y"), named("z")))}, []api.Package{providing(against(at("a", "1"), "x"), named("x")), providing(needing(at("b", "1"), "(x and z)"), named("y"))}}
	r := made(t, in, jobs(job(api.Install, "x")))
	const all = ". 0 1 2 01 02 12 012"
	lits := map[string]int{}
	wants := map[string]string{
		"x":                   "0 2 01 02 12 012",
		"z":                   "2 02 12 012",
		"other":               "",
		"(x and y)":           "2 01 02 12 012",
		"(a and b)":           "01 012",
		"(a or b)":            "0 1 01 02 12 012",
		"(a or other)":        "0 01 02 012",
		"(a if b)":            ". 0 2 01 02 012",
		"(b if a)":            ". 1 2 01 12 012",
		"(other if other)":    all,
		"(a if b else c)":     "2 01 02 012",
		"(a unless b)":        "0 02",
		"(a unless b else c)": "0 02 12 012",
		"(x with y)":          "2 02 12 012",
		"(x with other)":      "",
		"(x without y)":       "0 01 02 012",
		"(y without x)":       "1 01 12 012",
		"((a if b) and (b if a) and (c or (a without other)))": "2 01 012",
	}
	for round := range 2 {
		for s := range wants {
			lit := wantLit(t, r, read(s)[0])
			if lits[s] = lit; round == 0 && slices.Contains([]string{"a", "z"}, s) && lit != 3 {
				t.Errorf("%s: %d", s, lit)
			}
		}
	}
	for _, state := range states(3) {
		v := settle(t, 3, r.Vars(), r.Base(), state)
		for s, want := range wants {
			yes := slices.ContainsFunc(strings.Fields(want), func(one string) bool { return slices.Equal(digits(one), state) })
			if v.of(lits[s]) > 0 != yes {
				t.Errorf("%v: %s: want %v", state, s, yes)
			}
		}
		if got := r.State(v.bools()); !slices.Equal(got, state) {
			t.Errorf("%v: %v", state, got)
		}
	}
}

// P18.1, P18.2: how many variables there are, ahead of a Lit and behind it, and what All is then.
func TestVars(t *testing.T) {
	in := input{[]api.Repo{repo(at("b", "1"), at("c", "1"))}, []api.Package{needing(at("a", "1"), "(b or c)")}}
	r := made(t, in, jobs())
	if r.Vars() != 4 || len(r.Base()) == 0 {
		t.Fatalf("%d variables, %v", r.Vars(), r.Base())
	}
	before := r.Base()
	if lit := wantLit(t, r, atom("b")); lit != 2 || r.Vars() != 4 || !sameLists(r.Base(), before) {
		t.Errorf("b: %d, %d variables, %v", lit, r.Vars(), r.Base())
	}
	if lit := wantLit(t, r, read("(b and c)")[0]); variable(lit) != 4 || r.Vars() != 5 || len(r.Base()) <= len(before) {
		t.Errorf("(b and c): %d, %d variables, %v", lit, r.Vars(), r.Base())
	}
	wantLists(t, "all", r.All(), slices.Concat(r.Base(), r.Clauses(0), r.Clauses(1))...)
	wantLists(t, "the items'", slices.Concat(r.Clauses(0), r.Clauses(1)), []int{-1, 4}, []int{1})
}

// invalid are rich dependencies that are not valid at Needs.
func invalid() map[string]api.Rich {
	own := of(api.And, atom("x"), atom("x"))
	own.Args[1] = own
	deep := atom("x")
	for range api.MaxNest + 1 {
		deep = of(api.Or, deep, atom("x"))
	}
	l := map[string]api.Rich{
		"nothing":               {},
		"Kind 0":                of(0, atom("x"), atom("y")),
		"Kind 8":                of(8, atom("x"), atom("y")),
		"an Atom without a Dep": {Kind: api.Atom},
		"a name that is a word": atom("if"),
		"a file with a version": {Kind: api.Atom, Dep: ranged("/f", api.Equal, "1")},
		"If of four":            of(api.If, atom("x"), atom("x"), atom("x"), atom("x")),
		"Without of three":      of(api.Without, atom("x"), atom("x"), atom("x")),
		"If within With":        of(api.With, atom("x"), read("(x if y)")[0]),
		"Unless within Without": of(api.Without, read("(x unless y)")[0], atom("x")),
		"too large":             of(api.Or, slices.Repeat([]api.Rich{atom("x")}, api.MaxNodes)...),
		"too deep":              deep,
		"what contains itself":  own,
	}
	for kind := api.And; kind <= api.Without; kind++ {
		l["one of Kind "+strconv.Itoa(int(kind))] = of(kind, atom("x"))
	}
	return l
}

// P18.2: what is not valid at Needs is ErrForm, and leaves all as it was, whatever comes then.
func TestInvalid(t *testing.T) {
	in, request := everything()
	r, calm := made(t, in, request), made(t, in, request)
	for what, d := range invalid() {
		for _, bad := range []api.Rich{d, of(api.Or, read("(x and b)")[0], d), of(api.And, d, atom("x"))} {
			before := answersOf(r)
			if lit, e := r.Lit(bad); lit != 0 || e != api.ErrForm {
				t.Errorf("%s: %d, %d", what, lit, e)
			}
			wantSame(t, what, answersOf(r), before)
		}
		for _, s := range []string{"x", "(x or a)", "(a if b else x)"} {
			lit, e := r.Lit(read(s)[0])
			want, _ := calm.Lit(read(s)[0])
			if lit != want || e != api.OK {
				t.Errorf("behind %s: %s: %d, %d, want %d", what, s, lit, e, want)
			}
		}
	}
	wantSame(t, "behind all of them", answersOf(r), answersOf(calm))
}

// sum is a number that hangs on all clauses, and on their order.
func sum(clauses [][]int) uint64 {
	h := uint64(len(clauses))
	for _, clause := range clauses {
		h = h*1099511628211 + uint64(len(clause))
		for _, lit := range clause {
			h = h*1099511628211 + uint64(lit)
		}
	}
	return h
}

// crammed is a rule book with nearly as many helpers as there may be: one of the number that is left does not fit.
func crammed(t *testing.T, in input, request api.Request) *rules.Rules {
	t.Helper()
	r := made(t, in, request)
	large := atom("a")
	for i := range api.MaxNest - 1 { // so many parts that are neither Atoms nor known
		large = of(api.And, large, of([]uint8{api.Or, api.If, api.Unless}[i%3], atom("a"), atom("b")))
		if shape.Count(large) > api.MaxNodes-4 {
			break
		}
	}
	for {
		vars := r.Vars()
		lit, e := r.Lit(large)
		switch {
		case e == api.OK && lit != 0 && r.Vars() > vars:
			continue
		case e != api.ErrTooLarge || lit != 0 || r.Vars() != vars || vars <= norm.MaxHelpers-api.MaxNodes || vars > norm.MaxHelpers+len(in.all()):
			t.Fatalf("%d, %d; %d variables, before it %d", lit, e, r.Vars(), vars)
		}
		return r
	}
}

// P18.2, P18.4: a Lit that would make too many helpers is ErrTooLarge, and makes none; what fits is told.
func TestTooLarge(t *testing.T) {
	in := input{[]api.Repo{repo(providing(at("b", "1"), named("x")))}, []api.Package{providing(needing(at("a", "1"), "x"), named("x"))}}
	r := crammed(t, in, jobs(job(api.Install, "b")))
	last, state := 0, []int{1}
	for r.Vars() < norm.MaxHelpers+2 {
		lit, e := r.Lit(read("(b unless a)")[0])
		if e != api.OK || lit == 0 {
			t.Fatalf("%d, %d, %d variables", lit, e, r.Vars())
		}
		last = lit
	}
	before := sum(r.All())
	for _, s := range []string{"(a and b)", "(a if b else a)", "other", "((a or b) and (b or a))"} {
		if lit, e := r.Lit(read(s)[0]); lit != 0 || e != api.ErrTooLarge {
			t.Errorf("%s: %d, %d", s, lit, e)
		}
	}
	if lit, e := r.Lit(api.Rich{}); lit != 0 || e != api.ErrForm {
		t.Errorf("what is not valid: %d, %d", lit, e)
	}
	if lit, e := r.Lit(atom("b")); lit != 2 || e != api.OK {
		t.Errorf("b: %d, %d", lit, e)
	}
	if r.Vars() != norm.MaxHelpers+2 || sum(r.All()) != before {
		t.Errorf("%d variables", r.Vars())
	}
	wantItems(t, "items", r.Items(), item(api.NeedItem, 0, 0), item(api.KeepItem, 0), item(api.JobItem, 0))
	wantLists(t, "the last ones", r.All()[len(r.Base()):], []int{-1, wantOwn(t, r, item(api.NeedItem, 0, 0))}, []int{1}, []int{2})
	v := settle(t, 2, r.Vars(), r.Base(), state)
	if v.of(last) < 0 || !slices.Equal(r.State(v.bools()), state) {
		t.Errorf("(b unless a): %d", v.of(last))
	}
}

// P18.1, P18.2: as many packages as there may be, each with as many dependencies as there may be, of as many parts, and as many jobs.
func TestGreat(t *testing.T) {
	one := over(at("p", "1"), named("q"), ranged("q", api.Less, "1"))
	need := read("(p and (q or p) and (p if q) and (p unless q else p) and (q or (p and (q or (p and q)))))")[0]
	need.Args = append(need.Args, slices.Repeat([]api.Rich{atom("p")}, api.MaxNodes-shape.Count(need))...)
	clash := of(api.And, slices.Repeat([]api.Rich{read("(p without q)")[0]}, 7)...)
	one.Requires, one.Conflicts = slices.Repeat([]api.Rich{need}, api.MaxDeps), slices.Repeat([]api.Rich{clash}, api.MaxDeps)
	var l []api.Package
	for n := range api.MaxPackages {
		p := one
		p.EVR.Ver = strconv.Itoa(n)
		l = append(l, p)
	}
	l[api.MaxPackages-1].Name = "q"
	const half = api.MaxPackages / 2
	in := input{[]api.Repo{repo(l[half:]...)}, l[:half]}
	r := made(t, in, jobs(slices.Repeat([]api.Job{job(api.Install, "q")}, api.MaxJobs)...))
	w := wordsOf(in, jobs(slices.Repeat([]api.Job{job(api.Install, "q")}, api.MaxJobs)...))
	items, vars, clauses := r.Items(), r.Vars(), 0
	wantItems(t, "as many as there may be", items, w.items()...)
	for i, x := range items {
		got := r.Clauses(i)
		clauses += len(got)
		switch x.Kind {
		case api.NeedItem, api.ClashItem:
			if len(got) != 1 || len(got[0]) != 2 || got[0][0] != -1-x.P || got[0][1] == 0 || variable(got[0][1]) >= vars {
				t.Fatalf("%v: %v, of %d variables", x, got, vars)
			}
		default:
			if want := w.plain(x); !sameLists(got, want) {
				t.Fatalf("%v: %v, want %v", x, got, want)
			}
		}
	}
	base, all := len(r.Base()), len(r.All())
	if all != base+clauses || vars < api.MaxPackages*2*api.MaxDeps || vars > api.MaxPackages+norm.MaxHelpers {
		t.Errorf("%d clauses, of %d and %d; %d variables", all, base, clauses, vars)
	}
	if got := r.State(slices.Repeat([]bool{true}, vars)); !slices.Equal(got, numbers(0, api.MaxPackages)) {
		t.Errorf("all: %v", got)
	}
}
