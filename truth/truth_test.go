package truth_test

import (
	"slices"
	"strings"
	"testing"

	"chandlery/api"
	"chandlery/pool"
	"chandlery/truth"
)

// wantStates asks for just these states, of so many packages, that satisfy what a text says, however they are written.
func wantStates(t *testing.T, u *truth.Truth, count int, s string, want func(state []int) bool) {
	t.Helper()
	r := read(t, s)
	for _, state := range states(count) {
		yes := want(state)
		for _, same := range alike(state, count) {
			if u.Satisfies(same, r) != yes {
				t.Errorf("%v satisfies %s: want %v", same, s, yes)
			}
			for _, n := range absent(count) {
				if u.Without(same, n, r) != yes {
					t.Errorf("%v without %d, which there is not, satisfies %s: want %v", same, n, s, yes)
				}
			}
		}
		for n := range count {
			more := append([]int{n}, state...)
			less := slices.DeleteFunc(slices.Clone(state), func(m int) bool { return m == n })
			if yes := want(less); u.Without(state, n, r) != yes || u.Without(more, n, r) != yes || u.Without(less, n, r) != yes {
				t.Errorf("%v without %d satisfies %s: want %v", state, n, s, yes)
			}
		}
		if len(state) == 1 && u.Alone(state[0], r) != yes {
			t.Errorf("%v alone satisfies %s: want %v", state, s, yes)
		}
	}
}

// wantWho asks for just these packages, of so many, that alone satisfy what a text says.
func wantWho(t *testing.T, u *truth.Truth, count int, s string, want ...int) {
	t.Helper()
	r := read(t, s)
	for _, state := range states(count) {
		of := slices.DeleteFunc(slices.Clone(state), func(n int) bool { return !slices.Contains(want, n) })
		for _, same := range alike(state, count) {
			if l := u.Who(same, r); !slices.Equal(l, of) {
				t.Errorf("of %v, %v alone satisfy %s, want %v", same, l, s, of)
			}
		}
	}
	for n := range count {
		if yes := slices.Contains(want, n); u.Alone(n, r) != yes {
			t.Errorf("%d alone satisfies %s: want %v", n, s, yes)
		}
	}
	for _, n := range absent(count) {
		if u.Alone(n, r) {
			t.Errorf("%d, which there is not, satisfies %s", n, s)
		}
	}
}

// anyOf says of a state whether one of these packages is in it.
func anyOf(l ...int) func([]int) bool {
	return func(state []int) bool {
		return slices.ContainsFunc(l, func(n int) bool { return slices.Contains(state, n) })
	}
}

// P14.1, P14.2: the chapter's examples, whether the packages are installed or of repositories.
func TestExamples(t *testing.T) {
	for _, in := range spread(having("a", "x"), having("b", "y")) {
		u, _ := made(t, in)
		for _, c := range []struct {
			s     string
			state []int
			want  bool
		}{
			{"(x and y)", []int{0, 1}, true},
			{"(x with y)", []int{0, 1}, false},
			{"(x if y)", []int{0}, true},
			{"(y if x)", []int{0}, false},
			{"(x unless y)", []int{0}, true},
			{"(y if y else x)", []int{0}, true},
		} {
			if u.Satisfies(c.state, read(t, c.s)) != c.want {
				t.Errorf("%v satisfies %s: want %v", c.state, c.s, c.want)
			}
		}
		r := read(t, "(x without y)")
		if !u.Alone(0, r) || u.Alone(1, r) || !slices.Equal(u.Who([]int{1, 0}, r), []int{0}) {
			t.Errorf("(x without y): %v, %v, %v", u.Alone(0, r), u.Alone(1, r), u.Who([]int{1, 0}, r))
		}
	}
}

// P14.1, P14.2: no pool, and a truth of nil.
func TestNil(t *testing.T) {
	if u, e := truth.New(nil); u != nil || e != api.ErrNil {
		t.Errorf("New(nil): %v, %d", u, e)
	}
	var none *truth.Truth
	for _, s := range []string{"x", "(x and x)", "(x or y)", "(x if y)", "(x if y else z)", "(x unless y)", "(x unless y else z)", "(x with y)", "(x without y)", "((x if y) and (y if x))"} {
		wantNothing(t, "nil: "+s, none, 0, read(t, s))
		wantNothing(t, "nil: "+s, none, 3, read(t, s))
	}
	wantNothing(t, "nil: what is not well-formed", none, 3, api.Rich{})
}

// P14.1, P14.2: of a pool of nothing there is the empty state alone; it satisfies what asks for nothing.
func TestNothing(t *testing.T) {
	empty, _ := pool.New(nil, nil)
	repos, _ := pool.New(make([]api.Repo, api.MaxRepos), []api.Package{})
	for what, p := range map[string]*pool.Pool{"empty": empty, "of repositories": repos, "of no New": new(pool.Pool)} {
		u, e := truth.New(p)
		if u == nil || e != api.OK {
			t.Fatalf("%s: New: %v, %d", what, u, e)
		}
		for s, want := range map[string]bool{"x": false, "(x and y)": false, "(x or y)": false, "(x if y)": true, "(x if y else z)": false, "(x unless y)": false, "(x unless y else z)": false, "(x with y)": false, "(x without y)": false, "((x if y) if (y if x))": true, "((x if y) with (x if z))": false, "((x if y) without z)": false} {
			wantStates(t, u, 0, s, func([]int) bool { return want })
			wantWho(t, u, 0, s)
		}
	}
	u := new(truth.Truth)
	wantTruth(t, u, nil, nil, read(t, "(x if y)"))
	wantTruth(t, u, nil, []int{0}, read(t, "(x unless y)"))
}

// P14.1: each Kind, without and with an else, alone and nested, over all states of three packages, each of which provides a name of its own.
func TestKinds(t *testing.T) {
	const all = ". 0 1 2 01 02 12 012"
	for _, in := range spread(having("a", "x"), having("b", "y"), having("c", "z")) {
		u, _ := made(t, in)
		for s, want := range map[string]string{
			"x":                                 "0 01 02 012",
			"y":                                 "1 01 12 012",
			"z":                                 "2 02 12 012",
			"other":                             "",
			"(x and y)":                         "01 012",
			"(y and x)":                         "01 012",
			"(x and y and z)":                   "012",
			"(z and z and z and y)":             "12 012",
			"(x and other)":                     "",
			"(x or y)":                          "0 1 01 02 12 012",
			"(x or other)":                      "0 01 02 012",
			"(other or z)":                      "2 02 12 012",
			"(x or y or z)":                     "0 1 2 01 02 12 012",
			"(x if y)":                          ". 0 2 01 02 012",
			"(y if x)":                          ". 1 2 01 12 012",
			"(x if x)":                          all,
			"(x if other)":                      all,
			"(other if x)":                      ". 1 2 12",
			"(x if y else z)":                   "2 01 02 012",
			"(z if x else y)":                   "1 12 02 012",
			"(x if y else y)":                   "01 012",
			"(x if x else y)":                   "0 1 01 02 12 012",
			"(x unless y)":                      "0 02",
			"(x unless x)":                      "",
			"(x unless other)":                  "0 01 02 012",
			"(x unless y else z)":               "0 02 12 012",
			"(z unless x else y)":               "2 12 01 012",
			"(x unless y else y)":               "0 1 01 02 12 012",
			"(x unless x else y)":               "01 012",
			"(x with y)":                        "",
			"(x with x)":                        "0 01 02 012",
			"(x with x with y)":                 "",
			"(x without y)":                     "0 01 02 012",
			"(x without x)":                     "",
			"(x without other)":                 "0 01 02 012",
			"(other without x)":                 "",
			"((x and y) or z)":                  "2 01 02 12 012",
			"(x and (y or z))":                  "01 02 012",
			"((x or y) and (y or z))":           "1 01 02 12 012",
			"((x if y) if z)":                   ". 0 1 2 01 02 012",
			"(x if (y if z))":                   "0 2 01 02 012",
			"((x unless y) unless z)":           "0",
			"(x unless (y unless z))":           "0 02 012",
			"(x if y else (z if x else y))":     "01 02 012",
			"((x or y) unless (x and y))":       "0 1 02 12",
			"((x if y else z) unless z else y)": "01 12 012",
			"((x with x) if (y without z))":     ". 0 2 01 02 012",
			"((x if y) and (y if x))":           ". 2 01 012",
			"((x if y) or (z unless x))":        ". 0 2 01 02 12 012",
			"((other if x) with y)":             "1 01 12 012",
			"((other if x) without z)":          "1 01 12 012",
		} {
			wantStates(t, u, 3, s, func(state []int) bool {
				return slices.ContainsFunc(strings.Fields(want), func(one string) bool { return slices.Equal(digits(one), state) })
			})
		}
	}
}

// P14.1, P14.2: what a single package must satisfy alone, over all states of four packages, some of which provide several names.
func TestSingles(t *testing.T) {
	for _, in := range spread(having("a", "x"), having("b", "y"), having("c", "x", "y"), having("d", "x", "y", "z")) {
		u, _ := made(t, in)
		for s, want := range map[string][]int{
			"x":                                     {0, 2, 3},
			"z":                                     {3},
			"other":                                 nil,
			"(x with y)":                            {2, 3},
			"(y with x)":                            {2, 3},
			"(x with y with z)":                     {3},
			"(x with y with other)":                 nil,
			"(other with x)":                        nil,
			"(x without y)":                         {0},
			"(y without x)":                         {1},
			"(x without z)":                         {0, 2},
			"(z without x)":                         nil,
			"((x with y) without z)":                {2},
			"((x without z) with y)":                {2},
			"(x with (y without z))":                {2},
			"(x without (y with z))":                {0, 2},
			"(x without (y without z))":             {0, 3},
			"(x with (y or z))":                     {2, 3},
			"(x without (y or z))":                  {0},
			"(y without (x and z))":                 {1, 2},
			"((x or y) without (x and y))":          {0, 1},
			"((x and y) with (x or z))":             {2, 3},
			"((x if y) with y)":                     {2, 3},
			"((x if y) with x)":                     {0, 2, 3},
			"((z if x) with y)":                     {1, 3},
			"((x unless y) with x)":                 {0},
			"(x with (y unless z))":                 {2},
			"((x if y else z) without z)":           {2},
			"((x if y else x) with x)":              {0, 2, 3},
			"((x unless y else z) with x)":          {0, 3},
			"(y without (x unless z))":              {1, 3},
			"((x with y) with (y with x))":          {2, 3},
			"((x without z) without (y without z))": {0},
		} {
			wantStates(t, u, 4, s, anyOf(want...))
			wantWho(t, u, 4, s, want...)
		}
	}
}

// P14.1: what a single package must satisfy, as a part of what the whole state must satisfy.
func TestSinglesWithin(t *testing.T) {
	u := over(t, having("a", "x"), having("b", "y"), having("c", "x", "y"), having("d", "x", "y", "z"))
	for s, want := range map[string]func(is func(...int) bool) bool{
		"((x with y) and (x without y))":              func(is func(...int) bool) bool { return is(2, 3) && is(0) },
		"((x without y) or (y without x))":            func(is func(...int) bool) bool { return is(0, 1) },
		"((x with y) unless z)":                       func(is func(...int) bool) bool { return is(2, 3) && !is(3) },
		"((x with y) if z else (x without y))":        func(is func(...int) bool) bool { return is(3) || is(0) },
		"(z if (x with y))":                           func(is func(...int) bool) bool { return is(3) || !is(2) },
		"(z unless (y without x))":                    func(is func(...int) bool) bool { return is(3) && !is(1) },
		"(z unless (y without x) else (x without y))": func(is func(...int) bool) bool { return is(1) && is(0) || !is(1) && is(3) },
		"(x and (x with z))":                          func(is func(...int) bool) bool { return is(3) },
	} {
		wantStates(t, u, 4, s, func(state []int) bool {
			return want(func(l ...int) bool { return anyOf(l...)(state) })
		})
	}
}

// P14.2: who alone satisfies what need not have what it asks for.
func TestWho(t *testing.T) {
	for _, in := range spread(having("a", "x"), having("b", "y"), having("c", "x", "y"), having("d", "z")) {
		u, _ := made(t, in)
		for s, want := range map[string][]int{
			"x":                       {0, 2},
			"(x or y)":                {0, 1, 2},
			"(x and y)":               {2},
			"(x if y)":                {0, 2, 3},
			"(x if y else z)":         {2, 3},
			"(x unless y)":            {0},
			"(x unless y else z)":     {0},
			"(z if x)":                {1, 3},
			"(x if other)":            {0, 1, 2, 3},
			"(other if other)":        {0, 1, 2, 3},
			"(other unless x)":        nil,
			"(other unless x else y)": {2},
			"(x with y)":              {2},
			"(y without x)":           {1},
		} {
			wantWho(t, u, 4, s, want...)
		}
	}
}

// P14.1: without a package a state satisfies what it would satisfy if that were not in it, however often it is.
func TestWithout(t *testing.T) {
	u := over(t, having("a", "x"), having("b", "x"), having("c", "y"))
	for _, c := range []struct {
		state []int
		but   int
		s     string
		want  bool
	}{
		{[]int{0}, 0, "x", false},
		{[]int{0, 0, 0}, 0, "x", false},
		{[]int{0, 1, 0}, 0, "x", true},
		{[]int{1, 0, 1}, 1, "x", true},
		{[]int{0, 1}, 2, "x", true},
		{[]int{0}, 1, "x", true},
		{[]int{2}, 1, "x", false},
		{nil, 0, "x", false},
		{nil, 0, "(x if y)", true},
		{[]int{2}, 2, "(x if y)", true},
		{[]int{2}, 0, "(x if y)", false},
		{[]int{2, 0}, 0, "(x if y)", false},
		{[]int{2, 0, 1}, 0, "(x if y)", true},
		{[]int{2, 0}, 2, "(x unless y)", true},
		{[]int{2, 0}, 0, "(x unless y)", false},
		{[]int{2, 0}, 1, "(x unless y)", false},
		{[]int{2, 0}, 2, "(x unless y else y)", true},
		{[]int{2}, 2, "(x if x else y)", false},
		{[]int{0, 1}, 0, "(x with x)", true},
		{[]int{0}, 0, "(x with x)", false},
		{[]int{0, 2}, 0, "(x without y)", false},
		{[]int{0, 2}, 2, "(x without y)", true},
		{[]int{0}, -1, "x", true},
		{[]int{0, -1}, -1, "x", true},
		{[]int{0, 3}, 3, "x", true},
		{[]int{3}, 3, "x", false},
		{[]int{64}, 0, "x", false},
		{[]int{0}, 64, "x", true},
		{[]int{0}, 256, "x", true},
		{[]int{256}, 0, "x", false},
	} {
		if u.Without(c.state, c.but, read(t, c.s)) != c.want {
			t.Errorf("%v without %d satisfies %s: want %v", c.state, c.but, c.s, c.want)
		}
	}
}

// P14.1, P14.2: packages of one name, in several versions.
func TestOneName(t *testing.T) {
	for _, in := range spread(at("a", "1"), at("a", "2"), at("a", "3"), providing(at("b", "1"), ranged("a", api.Equal, "2"))) {
		u, _ := made(t, in)
		for s, want := range map[string][]int{
			"a": {0, 1, 2, 3}, "b": {3}, "a = 2": {1, 3}, "a > 2": {2}, "a >= 2": {1, 2, 3}, "a < 2": {0}, "a <= 2": {0, 1, 3},
			"a = 2-1": {1, 3}, "a = 2-2": {3}, "a = 1:2": nil, "a > 3": nil,
			"(a with b)": {3}, "(a without b)": {0, 1, 2}, "(a >= 2 with a <= 2)": {1, 3}, "(a > 1 with a < 3)": {1, 3}, "(a without a = 2)": {0, 2}, "(a < 2 with a > 2)": nil,
		} {
			wantStates(t, u, 4, s, anyOf(want...))
			wantWho(t, u, 4, s, want...)
		}
		wantStates(t, u, 4, "(a = 1 and a = 3)", func(state []int) bool { return anyOf(0)(state) && anyOf(2)(state) })
		wantStates(t, u, 4, "(a = 3 unless a = 2)", func(state []int) bool { return anyOf(2)(state) && !anyOf(1, 3)(state) })
	}
}

// P14.1, P14.2: packages that provide a name more than once, in several versions, and their own one.
func TestMoreThanOnce(t *testing.T) {
	twice := providing(at("a", "1"), ranged("x", api.Equal, "1"), ranged("x", api.Equal, "3"))
	same := providing(at("b", "1"), named("x"), named("x"), named("x"))
	own := providing(at("x", "1"), ranged("x", api.Equal, "3"), ranged("x", api.Equal, "1"))
	for _, in := range spread(twice, same, own, providing(at("d", "1"), ranged("x", api.Less, "2"))) {
		u, _ := made(t, in)
		for s, want := range map[string][]int{
			"x": {0, 1, 2, 3}, "x = 1": {0, 1, 2, 3}, "x = 2": {1}, "x = 3": {0, 1, 2}, "x < 3": {0, 1, 2, 3}, "x > 3": {1},
			"(x = 1 with x = 3)": {0, 1, 2}, "(x < 2 with x > 2)": {0, 1, 2}, "(x = 3 with x = 2)": {1}, "(x without x = 3)": {3}, "(x = 3 without x = 2)": {0, 2}, "(x with x)": {0, 1, 2, 3},
		} {
			wantStates(t, u, 4, s, anyOf(want...))
			wantWho(t, u, 4, s, want...)
		}
	}
}

// P14.1, P14.2: files, and names of files that packages provide.
func TestFiles(t *testing.T) {
	for _, in := range spread(filed(having("a", "x"), "/f", "/g"), filed(at("b", "1"), "/f"), having("c", "/g", "x"), at("f", "1")) {
		u, _ := made(t, in)
		for s, want := range map[string][]int{
			"/f": {0, 1}, "/g": {0, 2}, "/": nil, "/f/g": nil, "f": {3}, "/h": nil,
			"(/f with /g)": {0}, "(/f with x)": {0}, "(x with /g)": {0, 2}, "(/f without x)": {1}, "(x without /f)": {2}, "(/g without a)": {2},
		} {
			wantStates(t, u, 4, s, anyOf(want...))
			wantWho(t, u, 4, s, want...)
		}
	}
}

// P14.1: what a package requires, conflicts with, obsoletes, recommends, supplements, suggests or enhances, it does not provide.
func TestOtherLists(t *testing.T) {
	p, l := at("a", "1"), []api.Rich{atom("x")}
	p.Requires, p.Conflicts, p.Recommends, p.Supplements, p.Suggests, p.Enhances = l, l, l, l, l, l
	p.Obsoletes, p.Vendor = []api.Dep{named("x")}, "x"
	u := over(t, p, at("x", "1"))
	wantStates(t, u, 2, "x", anyOf(1))
	wantWho(t, u, 2, "(x without a)", 1)
	wantWho(t, u, 2, "a", 0)
}

// P14.1, P14.2: as many packages as there may be, each asked for by a name of its own.
func TestGreat(t *testing.T) {
	var l []api.Package
	var all []int
	for n := range api.MaxPackages {
		l, all = append(l, having("p"+number(n), "x")), append(all, n)
	}
	u := over(t, l...)
	border := read(t, "(p0 or p63 or p64 or p127 or p128 or p191 or p192 or p255)")
	if got, want := u.Who(all, border), []int{0, 63, 64, 127, 128, 191, 192, 255}; !slices.Equal(got, want) {
		t.Errorf("%v, want %v", got, want)
	}
	if got := u.Who(all, atom("x")); !slices.Equal(got, all) {
		t.Errorf("%v, want all", got)
	}
	for n := range l {
		r := atom("p" + number(n))
		others := slices.Delete(slices.Clone(all), n, n+1)
		if !u.Satisfies(all, r) || !u.Satisfies([]int{n}, r) || u.Satisfies(others, r) || u.Satisfies(nil, r) {
			t.Errorf("satisfies p%d: %v, %v, %v", n, u.Satisfies(all, r), u.Satisfies([]int{n}, r), u.Satisfies(others, r))
		}
		if u.Without(all, n, r) || !u.Without(all, (n+1)%256, r) || !u.Without(all, (n+64)%256, r) || !u.Without(all, n+256, r) {
			t.Errorf("satisfies p%d without: %v, %v, %v", n, u.Without(all, n, r), u.Without(all, (n+1)%256, r), u.Without(all, (n+64)%256, r))
		}
		if got := u.Who(all, r); !slices.Equal(got, []int{n}) || len(u.Who(others, r)) != 0 {
			t.Errorf("p%d: %v, %v", n, got, u.Who(others, r))
		}
		if got := u.Who(others, of(api.With, atom("x"), atom("x"))); !slices.Equal(got, others) {
			t.Errorf("without %d: %v", n, got)
		}
		for m := range l {
			if u.Alone(m, r) != (m == n) {
				t.Errorf("%d alone satisfies p%d: %v", m, n, m != n)
			}
		}
	}
}

// P14.1, P14.2: packages that provide as much as they may, asked for by as many parts as there may be.
func TestMuch(t *testing.T) {
	var l []api.Package
	var all []int
	for n := range api.MaxPackages {
		p := at("a", number(n))
		for i := range api.MaxDeps {
			p.Provides = append(p.Provides, ranged("a", api.Equal, number(1000*i+n)))
		}
		l, all = append(l, p), append(all, n)
	}
	u := over(t, l...)
	var args []api.Rich
	for i := range api.MaxNodes - 1 {
		args = append(args, api.Rich{Kind: api.Atom, Dep: ranged("a", api.Equal, number(1000*i+255))})
	}
	for kind, want := range map[uint8][]int{api.And: {255}, api.Or: {255}, api.With: {255}} {
		r := of(kind, args...)
		if got := u.Who(all, r); !slices.Equal(got, want) || !u.Satisfies(all, r) || u.Without(all, 255, r) {
			t.Errorf("%d: %v, %v, %v", kind, got, u.Satisfies(all, r), u.Without(all, 255, r))
		}
	}
	without := of(api.Without, atom("a"), of(api.Or, args[2:]...))
	if got := u.Who(all, without); !slices.Equal(got, all[:255]) {
		t.Errorf("%v", got)
	}
}

// P14.1: as many parentheses as there may be.
func TestDeep(t *testing.T) {
	u := over(t, having("a", "x", "y"), having("b", "x"), having("c", "y"))
	for _, c := range []struct {
		kind  uint8
		other string
		want  map[string]bool // by the state
	}{
		{api.And, "y", map[string]bool{".": false, "0": true, "1": false, "2": false, "12": true}},
		{api.Or, "y", map[string]bool{".": false, "0": true, "1": true, "2": true, "12": true}},
		{api.If, "y", map[string]bool{".": true, "0": true, "1": true, "2": false, "12": true}},
		{api.Unless, "y", map[string]bool{".": false, "0": false, "1": true, "2": false, "12": false}},
		{api.With, "y", map[string]bool{".": false, "0": true, "1": false, "2": false, "12": false, "012": true}},
		{api.Without, "y", map[string]bool{".": false, "0": false, "1": true, "2": false, "12": true}},
	} {
		r := atom("x")
		for range api.MaxNest {
			r = of(c.kind, r, atom(c.other))
		}
		for s, want := range c.want {
			if u.Satisfies(digits(s), r) != want {
				t.Errorf("%s satisfies %s: want %v", s, text(r), want)
			}
		}
		wantNothing(t, "too deep", u, 3, of(c.kind, r, atom("y")))
		wantNothing(t, "too deep", u, 3, of(c.kind, atom("y"), r))
	}
}

// ill are rich dependencies that are not well-formed.
func ill() map[string]api.Rich {
	x, y := atom("x"), atom("y")
	l := map[string]api.Rich{
		"nothing":             {},
		"no Kind, with Args":  of(0, x, x),
		"a Kind too great":    of(8, x, x),
		"the greatest Kind":   of(255, x, x),
		"the greatest Atom":   {Kind: 255, Dep: named("x")},
		"an Atom with Args":   {Kind: api.Atom, Dep: named("x"), Args: []api.Rich{x}},
		"an Atom of nothing":  {Kind: api.Atom},
		"a word":              atom("if"),
		"a name too long":     atom(longest + "x"),
		"an invalid Op":       {Kind: api.Atom, Dep: ranged("x", api.Less|api.Greater, "1")},
		"an Op of no bit":     {Kind: api.Atom, Dep: ranged("x", 8, "1")},
		"a version, any":      {Kind: api.Atom, Dep: ranged("x", api.Any, "1")},
		"a version of a file": {Kind: api.Atom, Dep: ranged("/f", api.Equal, "1")},
		"If of four":          of(api.If, x, x, x, x),
		"Unless of four":      of(api.Unless, x, y, x, x),
		"Without of three":    of(api.Without, x, y, y),
		"too many Args":       of(api.Or, slices.Repeat([]api.Rich{x}, api.MaxNodes)...),
	}
	for _, kind := range kinds {
		l["no Args "+number(int(kind))] = of(kind)
		l["one Arg "+number(int(kind))] = of(kind, x)
		l["a Dep "+number(int(kind))] = api.Rich{Kind: kind, Dep: named("x"), Args: []api.Rich{x, y}}
	}
	round := of(api.Or, x, x)
	round.Args[1] = round
	l["one that contains itself"] = round
	return l
}

// P14.1, P14.2: nothing satisfies what is not well-formed, be it wherever it is, whatever the rest says.
func TestNotWellFormed(t *testing.T) {
	u := over(t, filed(having("a", "x", "/f"), "/f"), having("b", "y"), having("c", "x", "y"))
	x, other := atom("x"), atom("other")
	for what, r := range ill() {
		wantNothing(t, what, u, 3, r)
		for _, kind := range kinds {
			for i, within := range []api.Rich{
				of(kind, r, x), of(kind, x, r), of(kind, r, other), of(kind, other, r),
				of(kind, x, other, r), of(kind, r, x, other), of(kind, x, r, other), of(kind, other, x, r),
				of(api.Or, x, of(kind, x, r)), of(api.If, x, of(kind, r, other)), of(api.Unless, x, of(api.And, other, of(kind, other, r))),
			} {
				wantNothing(t, what+" within "+number(int(kind))+", way "+number(i), u, 3, within)
			}
		}
	}
}

// P14.1, P14.2: ordinary pools, states and rich dependencies, and ones that grow.
func TestGrown(t *testing.T) {
	told := map[bool]int{}
	grown(t, 150, 30, kinds, func(u *truth.Truth, l []api.Package, state []int, r api.Rich) {
		wantTruth(t, u, l, state, r)
		told[u.Satisfies(state, r)]++
	})
	if told[true] < 1000 || told[false] < 1000 {
		t.Errorf("%v: too few", told)
	}
}
