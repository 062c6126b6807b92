package ask_test

import (
	"reflect"
	"slices"
	"strconv"
	"testing"

	"chandlery/api"
	"chandlery/ask"
	"chandlery/pool"
)

// P15.1, P15.2: the chapter's examples.
func TestExamples(t *testing.T) {
	in := input{[]api.Repo{repo(at("a", "1"), at("a", "3"), over(at("b", "1"), named("a")))}, []api.Package{at("a", "2")}}
	wantList(t, "successors", made(t, in, jobs()).Successors(0), []int{0, 2, 3})
	wantList(t, "with AllowDown", made(t, in, edited(jobs(), edit(api.AllowDown, 0))).Successors(0), []int{0, 1, 2, 3})
	for _, in := range []input{
		{installed: []api.Package{forArch(at("a", "1"), api.X8664), forArch(at("a", "1"), api.I686), forArch(at("a", "2"), api.I686)}},
		{repos: []api.Repo{repo(forArch(at("a", "1"), api.X8664), forArch(at("a", "1"), api.I686)), repo(forArch(at("a", "2"), api.I686))}},
	} {
		a := made(t, in, jobs())
		if a.Twins(0, 1) || !a.Twins(0, 2) || !a.Twins(1, 2) {
			t.Errorf("twins: %v, %v, %v", a.Twins(0, 1), a.Twins(0, 2), a.Twins(1, 2))
		}
	}
}

// wantNothing asks for zero values of whatever package or job, and that each state fulfils each job.
func wantNothing(t *testing.T, what string, a *ask.Ask) {
	t.Helper()
	for _, n := range append(absent(0), numbers(0, 300)...) {
		if a.Fits(n) || a.Twins(n, n) || a.Twins(n, n+1) || a.Twins(0, n) || a.Dropped(n) || a.Goes(n) {
			t.Errorf("%s: %d: %v, %v, %v, %v", what, n, a.Fits(n), a.Twins(0, n), a.Dropped(n), a.Goes(n))
		}
		if len(a.Successors(n)) != 0 || len(a.Newcomers(n)) != 0 || len(a.Meant(n)) != 0 {
			t.Errorf("%s: %d: %v, %v, %v", what, n, a.Successors(n), a.Newcomers(n), a.Meant(n))
		}
		if !a.Fulfils(n, nil) || !a.Fulfils(n, []int{0, n, -1}) {
			t.Errorf("%s: %d is not fulfilled", what, n)
		}
	}
}

// P15.1, P15.2: no pool, whatever the request, and an ask of nil.
func TestNil(t *testing.T) {
	bad := edited(jobs(api.Job{}), api.Edit{})
	bad.Arch, bad.Budget = 0, -1
	for _, r := range []api.Request{{}, jobs(), bad, jobs(make([]api.Job, api.MaxJobs+1)...)} {
		if a, e := ask.New(nil, r); a != nil || e != api.ErrNil {
			t.Errorf("New(nil): %v, %d", a, e)
		}
	}
	var none *ask.Ask
	if none.Pool() != nil || none.Index() != nil || !reflect.DeepEqual(none.Request(), api.Request{}) {
		t.Errorf("of nil: %v, %v, %v", none.Pool(), none.Index(), none.Request())
	}
	wantNothing(t, "nil", none)
}

// P15.1, P15.2: a pool of nothing, and a request of nothing.
func TestNothing(t *testing.T) {
	empty, _ := pool.New(nil, nil)
	repos, _ := pool.New(make([]api.Repo, api.MaxRepos), []api.Package{})
	for what, p := range map[string]*pool.Pool{"empty": empty, "of repositories": repos, "of no New": new(pool.Pool)} {
		for _, r := range []api.Request{jobs(), {Arch: api.AArch64, Vendor: true, Jobs: []api.Job{}, Edits: []api.Edit{}}} {
			a, e := ask.New(p, r)
			if a == nil || e != api.OK {
				t.Fatalf("%s: New: %v, %d", what, a, e)
			}
			if a.Pool() != p || a.Index() == nil {
				t.Errorf("%s: %v, %v", what, a.Pool(), a.Index())
			}
			wantNothing(t, what, a)
		}
		for kind, want := range map[uint8]bool{api.Install: false, api.Erase: true, api.Upgrade: true, api.Sync: true} {
			a, e := ask.New(p, jobs(job(kind, "a")))
			if e != api.OK || a.Fulfils(0, nil) != want || a.Fulfils(0, []int{0, 1, -1}) != want || len(a.Meant(0)) != 0 {
				t.Errorf("%s: a job of Kind %d: %d, want %v", what, kind, e, want)
			}
		}
	}
	wantNothing(t, "of no New", new(ask.Ask))
}

// wantError asks for an error of New over a pool of three packages, one of which is installed.
func wantError(t *testing.T, what string, r api.Request, want api.Errno) {
	t.Helper()
	p := poolOf(t, input{[]api.Repo{repo(at("a", "2"), at("b", "1"))}, []api.Package{at("a", "1")}})
	a, e := ask.New(p, r)
	if e != want || (a == nil) != (want != api.OK) {
		t.Errorf("%s: %v, %d, want %d", what, a, e, want)
	}
}

// P15.1: the Arch is that of a machine.
func TestArch(t *testing.T) {
	for a := range 256 {
		want := api.ErrArg
		if a == int(api.X8664) || a == int(api.I686) || a == int(api.AArch64) {
			want = api.OK
		}
		wantError(t, "Arch "+strconv.Itoa(a), api.Request{Arch: uint8(a)}, want)
	}
}

// P15.1: the Budget is from 0 to MaxBudget.
func TestBudget(t *testing.T) {
	for budget, want := range map[int]api.Errno{
		0: api.OK, 1: api.OK, 1 << 31: api.OK, api.MaxBudget - 1: api.OK, api.MaxBudget: api.OK,
		api.MaxBudget + 1: api.ErrArg, -1: api.ErrArg, 1<<63 - 1: api.ErrArg, -1 << 63: api.ErrArg, 1 << 41: api.ErrArg,
	} {
		wantError(t, "Budget "+strconv.Itoa(budget), api.Request{Arch: api.I686, Budget: budget}, want)
	}
}

// P15.1: as many jobs and edits as there may be, and one more.
func TestHowMany(t *testing.T) {
	one, drop := job(api.Install, "a"), edit(api.AllowDown, 0)
	for count, want := range map[int]api.Errno{0: api.OK, 1: api.OK, api.MaxJobs - 1: api.OK, api.MaxJobs: api.OK, api.MaxJobs + 1: api.ErrTooLarge, 1000: api.ErrTooLarge} {
		wantError(t, strconv.Itoa(count)+" jobs", jobs(slices.Repeat([]api.Job{one}, count)...), want)
	}
	for count, want := range map[int]api.Errno{0: api.OK, 1: api.OK, api.MaxEdits - 1: api.OK, api.MaxEdits: api.OK, api.MaxEdits + 1: api.ErrTooLarge, 1000: api.ErrTooLarge} {
		wantError(t, strconv.Itoa(count)+" edits", edited(jobs(), slices.Repeat([]api.Edit{drop}, count)...), want)
	}
	both := edited(jobs(slices.Repeat([]api.Job{one}, api.MaxJobs)...), slices.Repeat([]api.Edit{drop}, api.MaxEdits)...)
	wantError(t, "as many as there may be of both", both, api.OK)
}

// P15.1: each Kind of jobs, and their Deps.
func TestJobs(t *testing.T) {
	good := job(api.Install, "a")
	for kind := range 256 {
		want := api.ErrForm
		if kind >= 1 && kind <= 4 {
			want = api.OK
		}
		wantError(t, "a job of Kind "+strconv.Itoa(kind), jobs(job(uint8(kind), "a")), want)
		wantError(t, "the last of Kind "+strconv.Itoa(kind), jobs(good, good, job(uint8(kind), "b")), want)
		wantError(t, "the first of Kind "+strconv.Itoa(kind), jobs(job(uint8(kind), longest), good), want)
	}
	for _, c := range []struct {
		d    api.Dep
		want api.Errno
	}{
		{named("a"), api.OK},
		{named("nobody"), api.OK},
		{named("/a/file"), api.OK},
		{ranged("a", api.Less, "1"), api.OK},
		{ranged("a", api.Greater|api.Equal, "1"), api.OK},
		{api.Dep{Name: "a", Op: api.Equal, EVR: api.EVR{Epoch: api.MaxEpoch, Ver: "1", Rel: "2"}}, api.OK},
		{api.Dep{}, api.ErrForm},
		{named(longest), api.OK},
		{named(longest + "x"), api.ErrForm},
		{named("if"), api.ErrForm},
		{named("a b"), api.ErrForm},
		{named("é"), api.ErrForm},
		{ranged("a", api.Any, "1"), api.ErrForm},
		{ranged("a", api.Equal, ""), api.ErrForm},
		{ranged("a", api.Less|api.Greater, "1"), api.ErrForm},
		{ranged("a", 7, "1"), api.ErrForm},
		{ranged("a", 8, "1"), api.ErrForm},
		{ranged("/a/file", api.Equal, "1"), api.ErrForm},
		{api.Dep{Name: "a", Op: api.Equal, EVR: api.EVR{Epoch: -1, Ver: "1"}}, api.ErrForm},
		{api.Dep{Name: "a", Op: api.Equal, EVR: api.EVR{Epoch: api.MaxEpoch + 1, Ver: "1"}}, api.ErrForm},
	} {
		for kind := api.Install; kind <= api.Sync; kind++ {
			what := "a job of Kind " + strconv.Itoa(int(kind)) + " for " + c.d.Name
			wantError(t, what, jobs(api.Job{Kind: kind, Dep: c.d}), c.want)
			wantError(t, what+" among others", jobs(good, api.Job{Kind: kind, Dep: c.d}, good), c.want)
			wantError(t, what+" that is dropped", edited(jobs(api.Job{Kind: kind, Dep: c.d}), edit(api.DropJob, 0)), c.want)
		}
	}
}

// P15.1: each Kind of edits, and their numbers: those of a DropJob are of jobs, those of all others of installed packages.
func TestEdits(t *testing.T) {
	good := edit(api.AllowArch, 0)
	for kind := range 256 {
		for _, jobCount := range []int{0, 1, 2, 3} {
			r := jobs(slices.Repeat([]api.Job{job(api.Erase, "b")}, jobCount)...)
			for _, n := range []int{-1 << 63, -256, -2, -1, 0, 1, 2, 3, 4, 63, 64, 255, 256, 1 << 32, 1<<63 - 1} {
				most := 0
				switch kind {
				case 1:
					most = jobCount
				case 2, 3, 4:
					most = 1 // of installed packages
				}
				want := api.ErrNone
				if n >= 0 && n < most {
					want = api.OK
				}
				what := strconv.Itoa(jobCount) + " jobs, an edit of Kind " + strconv.Itoa(kind) + " of " + strconv.Itoa(n)
				x := edit(uint8(kind), n)
				wantError(t, what, edited(r, x), want)
				wantError(t, what+", the last", edited(r, good, good, x), want)
				wantError(t, what+", the first", edited(r, x, good), want)
			}
		}
	}
}

// P15.1: which error comes first, of any that a request may have.
func TestWhichFirst(t *testing.T) {
	faults := []struct {
		e   api.Errno
		put func(r *api.Request)
	}{
		{api.ErrArg, func(r *api.Request) { r.Arch = api.NoArch }},
		{api.ErrArg, func(r *api.Request) { r.Budget = -1 }},
		{api.ErrArg, func(r *api.Request) { r.Budget = api.MaxBudget + 1 }},
		{api.ErrTooLarge, func(r *api.Request) {
			r.Jobs = append(r.Jobs, slices.Repeat([]api.Job{job(api.Sync, "a")}, api.MaxJobs+1)...)
		}},
		{api.ErrTooLarge, func(r *api.Request) {
			r.Edits = append(r.Edits, slices.Repeat([]api.Edit{edit(api.AllowErase, 0)}, api.MaxEdits+1)...)
		}},
		{api.ErrForm, func(r *api.Request) { r.Jobs = append(r.Jobs, api.Job{}) }},
		{api.ErrForm, func(r *api.Request) { r.Jobs = append(r.Jobs, job(api.Erase, "")) }},
		{api.ErrNone, func(r *api.Request) { r.Edits = append(r.Edits, api.Edit{}) }},
		{api.ErrNone, func(r *api.Request) { r.Edits = append(r.Edits, edit(api.AllowErase, 1)) }},
		{api.ErrNone, func(r *api.Request) { r.Edits = append(r.Edits, edit(api.DropJob, api.MaxJobs*4)) }},
	}
	row := []api.Errno{api.ErrArg, api.ErrTooLarge, api.ErrForm, api.ErrNone}
	for some := range 1 << len(faults) {
		r, want := jobs(), api.OK
		for i, fault := range faults {
			if some>>i&1 == 0 {
				continue
			}
			fault.put(&r)
			if want == api.OK || slices.Index(row, fault.e) < slices.Index(row, want) {
				want = fault.e
			}
		}
		wantError(t, "faults "+strconv.FormatInt(int64(some), 2), r, want)
	}
}

// P15.1: what New was given is told, and the index is one of the pool.
func TestGiven(t *testing.T) {
	in := input{[]api.Repo{repo(providing(at("b", "1"), named("a")), over(at("c", "1"), named("a")))}, []api.Package{at("a", "1")}}
	p := poolOf(t, in)
	r := edited(jobs(api.Job{Kind: api.Upgrade, Dep: ranged("a", api.Greater, "1")}, job(api.Erase, "c")), edit(api.DropJob, 1), edit(api.DropJob, 1), edit(api.AllowDown, 0))
	r.Arch, r.Vendor, r.Budget = api.I686, true, 77
	a, e := ask.New(p, r)
	if e != api.OK || a.Pool() != p {
		t.Fatalf("%v, %d", a, e)
	}
	if got := a.Request(); !reflect.DeepEqual(got, r) {
		t.Errorf("%v, want %v", got, r)
	}
	wantList(t, "providers", a.Index().Providers(named("a")), []int{0, 1})
	wantList(t, "named", a.Index().Named(named("a")), []int{0})
	wantList(t, "obsoleters", a.Index().Obsoleters(0), []int{2})
}

// P15.1: which architecture fits which machine.
func TestFits(t *testing.T) {
	var l []api.Package
	for a := api.NoArch; a <= api.AArch64; a++ {
		l = append(l, forArch(at("a", "1"), a))
	}
	for machine, want := range map[uint8][]int{api.X8664: {0, 1, 2}, api.I686: {0, 2}, api.AArch64: {0, 3}} {
		for _, in := range []input{{installed: l}, {repos: []api.Repo{repo(l...)}}, {[]api.Repo{repo(l[2:]...)}, l[:2]}} {
			a := made(t, in, api.Request{Arch: machine})
			for n := range l {
				if a.Fits(n) != slices.Contains(want, n) {
					t.Errorf("%d on %d: %v", n, machine, a.Fits(n))
				}
			}
			for _, n := range absent(len(l)) {
				if a.Fits(n) {
					t.Errorf("%d, which there is not, fits", n)
				}
			}
		}
	}
}

// P15.1: twins, turned about, too.
func TestTwins(t *testing.T) {
	for _, c := range []struct {
		a, b api.Package
		want bool
	}{
		{at("a", "1"), at("a", "1"), true},
		{at("a", "1"), at("a", "2"), true},
		{at("a", "1"), at("b", "1"), false},
		{at("a", "1"), at("A", "1"), false},
		{at("a", "1"), at("aa", "1"), false},
		{at("a", "1"), providing(at("b", "1"), named("a")), false},
		{forArch(at("a", "1"), api.X8664), forArch(at("a", "1"), api.X8664), true},
		{forArch(at("a", "1"), api.X8664), forArch(at("a", "1"), api.NoArch), true},
		{forArch(at("a", "1"), api.X8664), forArch(at("a", "1"), api.I686), false},
		{forArch(at("a", "1"), api.X8664), forArch(at("a", "1"), api.AArch64), false},
		{forArch(at("a", "1"), api.I686), forArch(at("a", "1"), api.AArch64), false},
		{forArch(at("a", "1.0"), api.I686), forArch(at("a", "1_00"), api.AArch64), false},
		{forArch(at("a", "1"), api.X8664), forArch(at("a", "2"), api.I686), true},
		{forArch(at("a", "1"), api.X8664), forArch(at("a", "1~a"), api.I686), true},
		{forArch(from(at("a", "1"), "v"), api.X8664), forArch(from(at("a", "1"), "w"), api.I686), false},
		{from(at("a", "1"), "v"), from(at("a", "1"), "w"), true},
	} {
		for _, in := range []input{{installed: []api.Package{c.a, c.b}}, {repos: []api.Repo{repo(c.a, c.b)}}, {[]api.Repo{repo(c.b)}, []api.Package{c.a}}} {
			a := made(t, in, jobs())
			if a.Twins(0, 1) != c.want || a.Twins(1, 0) != c.want || a.Twins(0, 0) || a.Twins(1, 1) {
				t.Errorf("%v, %v: %v, %v, want %v", c.a, c.b, a.Twins(0, 1), a.Twins(1, 0), c.want)
			}
			for _, n := range absent(2) {
				if a.Twins(n, 0) || a.Twins(1, n) || a.Twins(n, n) {
					t.Errorf("%d, which there is not, has a twin", n)
				}
			}
		}
	}
	longer := forArch(at("a", "1"), api.X8664)
	longer.EVR.Rel, longer.EVR.Epoch = "2", 0
	older := forArch(at("a", "1"), api.I686)
	newer := forArch(at("a", "1"), api.I686)
	newer.EVR.Epoch = 1
	a := made(t, input{installed: []api.Package{longer, older, newer}}, jobs())
	if !a.Twins(0, 1) || !a.Twins(1, 2) || !a.Twins(2, 0) {
		t.Errorf("of another Rel, or Epoch: %v, %v, %v", a.Twins(0, 1), a.Twins(1, 2), a.Twins(2, 0))
	}
}

// P15.2: which jobs are dropped.
func TestDropped(t *testing.T) {
	in := input{installed: []api.Package{at("a", "1"), at("b", "1"), at("c", "1")}}
	three := jobs(job(api.Install, "a"), job(api.Install, "a"), job(api.Sync, "b"))
	for _, c := range []struct {
		edits []api.Edit
		want  []int
	}{
		{nil, nil},
		{[]api.Edit{edit(api.DropJob, 0)}, []int{0}},
		{[]api.Edit{edit(api.DropJob, 1)}, []int{1}},
		{[]api.Edit{edit(api.DropJob, 2), edit(api.DropJob, 2), edit(api.DropJob, 0)}, []int{0, 2}},
		{[]api.Edit{edit(api.AllowErase, 0), edit(api.AllowDown, 1), edit(api.AllowArch, 2)}, nil},
		{[]api.Edit{edit(api.AllowErase, 0), edit(api.DropJob, 1), edit(api.AllowArch, 2)}, []int{1}},
	} {
		a := made(t, in, edited(three, c.edits...))
		for j := range three.Jobs {
			if a.Dropped(j) != slices.Contains(c.want, j) {
				t.Errorf("%v: %d: %v", c.edits, j, a.Dropped(j))
			}
		}
		for _, j := range absent(3) {
			if a.Dropped(j) {
				t.Errorf("%v: %d, which there is not, is dropped", c.edits, j)
			}
		}
	}
}

// P15.2: which installed packages may be removed: an Erase names them that is not dropped, or an AllowErase has their number.
func TestGoes(t *testing.T) {
	in := input{[]api.Repo{repo(at("a", "3"), at("d", "1"))}, []api.Package{at("a", "1"), at("a", "2"), providing(at("b", "1"), named("a"), named("d")), filed(at("c", "1"), "/a")}}
	erase, drop, allow := job(api.Erase, "a"), edit(api.DropJob, 0), edit(api.AllowErase, 3)
	for _, c := range []struct {
		what string
		r    api.Request
		want []int
	}{
		{"nothing", jobs(), nil},
		{"an Erase", jobs(erase), []int{0, 1}},
		{"an Erase of a version", jobs(api.Job{Kind: api.Erase, Dep: ranged("a", api.Less, "2")}), []int{0}},
		{"an Erase of a later one", jobs(api.Job{Kind: api.Erase, Dep: ranged("a", api.Greater, "2")}), nil},
		{"an Erase of a file", jobs(job(api.Erase, "/a")), nil},
		{"an Erase of one of a repository", jobs(job(api.Erase, "d")), nil},
		{"an Erase of nobody", jobs(job(api.Erase, "nobody")), nil},
		{"another Erase, too", jobs(erase, job(api.Erase, "b")), []int{0, 1, 2}},
		{"an Install", jobs(job(api.Install, "a")), nil},
		{"an Upgrade", jobs(job(api.Upgrade, "a")), nil},
		{"a Sync", jobs(job(api.Sync, "a")), nil},
		{"an Erase that is dropped", edited(jobs(erase), drop), nil},
		{"one of two that is dropped", edited(jobs(erase, erase), drop), []int{0, 1}},
		{"another one that is dropped", edited(jobs(job(api.Erase, "b"), erase), drop), []int{0, 1}},
		{"two that are dropped", edited(jobs(erase, erase), drop, edit(api.DropJob, 1)), nil},
		{"an AllowErase", edited(jobs(), allow), []int{3}},
		{"an AllowErase twice", edited(jobs(), allow, allow), []int{3}},
		{"an AllowErase and an Erase", edited(jobs(erase), edit(api.AllowErase, 2)), []int{0, 1, 2}},
		{"an AllowErase and an Erase of the same", edited(jobs(erase), edit(api.AllowErase, 1)), []int{0, 1}},
		{"an AllowErase and an Erase that is dropped", edited(jobs(erase), edit(api.AllowErase, 1), drop), []int{1}},
		{"other edits", edited(jobs(), edit(api.AllowDown, 0), edit(api.AllowArch, 1)), nil},
	} {
		a := made(t, in, c.r)
		for i := range in.installed {
			if a.Goes(i) != slices.Contains(c.want, i) {
				t.Errorf("%s: %d: %v", c.what, i, a.Goes(i))
			}
		}
		for _, n := range append(absent(6), 4, 5) {
			if a.Goes(n) {
				t.Errorf("%s: %d, which is not installed, may be removed", c.what, n)
			}
		}
	}
}

// P15.2: successors and newcomers, with and without downgrades, other architectures and Vendors, and those that obsolete.
func TestSuccessors(t *testing.T) {
	x := func(ver, vendor string, a uint8) api.Package { return forArch(from(at("a", ver), vendor), a) }
	in := input{
		installed: []api.Package{
			x("2", "v", api.X8664), // 0
			over(at("o", "1"), named("a")),
			x("3", "v", api.X8664), // 2: with a twin of it that is installed, too
			at("b", "1"),
		},
		repos: []api.Repo{
			repo(x("1", "v", api.X8664), x("2", "v", api.X8664), x("3", "v", api.X8664)),                                           // 4, 5, 6
			repo(x("3", "w", api.X8664), x("3", "v", api.I686), x("3", "v", api.AArch64)),                                          // 7, 8, 9
			repo(x("3", "v", api.NoArch), over(at("p", "1"), ranged("a", api.Less, "3"))),                                          // 10, 11
			repo(forArch(over(at("q", "1"), named("a")), api.AArch64), providing(at("r", "1"), named("a")), x("1", "w", api.I686)), // 12, 13, 14
			repo(over(x("1", "w", api.AArch64), ranged("a", api.Equal, "2")), at("b", "2")),                                        // 15, 16
		},
	}
	vendor := jobs()
	vendor.Vendor = true
	down, other := edit(api.AllowDown, 0), edit(api.AllowArch, 0)
	for _, c := range []struct {
		what     string
		r        api.Request
		of0, of2 []int
	}{
		{"nothing", jobs(), []int{0, 1, 2, 5, 6, 10, 11, 12, 15}, []int{1, 2, 6, 10, 12}},
		{"AllowDown", edited(jobs(), down), []int{0, 1, 2, 4, 5, 6, 10, 11, 12, 15}, []int{1, 2, 6, 10, 12}},
		{"AllowArch", edited(jobs(), other), []int{0, 1, 2, 5, 6, 8, 9, 10, 11, 12, 15}, []int{1, 2, 6, 10, 12}},
		{"both", edited(jobs(), other, down, down), []int{0, 1, 2, 4, 5, 6, 8, 9, 10, 11, 12, 15}, []int{1, 2, 6, 10, 12}},
		{"AllowErase", edited(jobs(), edit(api.AllowErase, 0), edit(api.AllowErase, 2)), []int{0, 1, 2, 5, 6, 10, 11, 12, 15}, []int{1, 2, 6, 10, 12}},
		{"Vendor", vendor, []int{0, 1, 2, 5, 6, 7, 10, 11, 12, 15}, []int{1, 2, 6, 7, 10, 12}},
		{"Vendor and AllowArch of 2", edited(vendor, edit(api.AllowArch, 2)), []int{0, 1, 2, 5, 6, 7, 10, 11, 12, 15}, []int{1, 2, 6, 7, 8, 9, 10, 12}},
		{"all", edited(vendor, down, other), []int{0, 1, 2, 4, 5, 6, 7, 8, 9, 10, 11, 12, 14, 15}, []int{1, 2, 6, 7, 10, 12}},
		{"a Sync", jobs(job(api.Sync, "a")), []int{0, 1, 2, 4, 5, 6, 10, 11, 12, 15}, []int{0, 1, 2, 4, 5, 6, 10, 12}},
		{"a Sync of one of them", jobs(api.Job{Kind: api.Sync, Dep: ranged("a", api.Greater, "2")}), []int{0, 1, 2, 5, 6, 10, 11, 12, 15}, []int{0, 1, 2, 4, 5, 6, 10, 12}},
		{"a Sync of another one", jobs(job(api.Sync, "b")), []int{0, 1, 2, 5, 6, 10, 11, 12, 15}, []int{1, 2, 6, 10, 12}},
		{"a Sync that is dropped", edited(jobs(job(api.Sync, "a")), edit(api.DropJob, 0)), []int{0, 1, 2, 5, 6, 10, 11, 12, 15}, []int{1, 2, 6, 10, 12}},
		{"a Sync, and an Install that is dropped", edited(jobs(job(api.Sync, "a"), job(api.Install, "a")), edit(api.DropJob, 1)), []int{0, 1, 2, 4, 5, 6, 10, 11, 12, 15}, []int{0, 1, 2, 4, 5, 6, 10, 12}},
		{"other jobs", jobs(job(api.Install, "a"), job(api.Erase, "a"), job(api.Upgrade, "a")), []int{0, 1, 2, 5, 6, 10, 11, 12, 15}, []int{1, 2, 6, 10, 12}},
	} {
		for _, machine := range []uint8{api.X8664, api.I686, api.AArch64} {
			c.r.Arch = machine
			a := made(t, in, c.r)
			wantList(t, c.what+": of 0", a.Successors(0), c.of0)
			wantList(t, c.what+": of 2", a.Successors(2), c.of2)
			wantList(t, c.what+": of 1", a.Successors(1), []int{1})
			wantList(t, c.what+": of 3", a.Successors(3), []int{3, 16})
			unfit := map[uint8][]int{api.X8664: {9, 12, 15}, api.I686: {4, 5, 6, 7, 9, 12, 15}, api.AArch64: {4, 5, 6, 7, 8, 14}}[machine]
			fit := func(l []int) []int {
				return slices.DeleteFunc(slices.Clone(l), func(n int) bool { return n < 4 || slices.Contains(unfit, n) })
			}
			wantList(t, c.what+": newcomers of 0", a.Newcomers(0), fit(c.of0))
			wantList(t, c.what+": newcomers of 2", a.Newcomers(2), fit(c.of2))
			wantList(t, c.what+": newcomers of 1", a.Newcomers(1), nil)
			wantList(t, c.what+": newcomers of 3", a.Newcomers(3), []int{16})
			for _, n := range append(absent(17), numbers(4, 17)...) {
				if len(a.Successors(n)) != 0 || len(a.Newcomers(n)) != 0 {
					t.Errorf("%s: %d, which is not installed: %v, %v", c.what, n, a.Successors(n), a.Newcomers(n))
				}
			}
		}
	}
}

// P15.2: which packages a job means, dropped or not.
func TestMeant(t *testing.T) {
	in := input{
		[]api.Repo{repo(at("a", "2"), providing(at("b", "1"), ranged("a", api.Equal, "2"))), repo(filed(at("c", "1"), "/f"), at("a", "1"))},
		[]api.Package{at("a", "1"), providing(at("d", "1"), named("a")), at("a", "2"), filed(at("e", "1"), "/f")},
	}
	for _, c := range []struct {
		d                          api.Dep
		install, erase, ofUpgrades []int
	}{
		{named("a"), []int{0, 1, 2, 4, 5, 7}, []int{0, 2, 4, 7}, []int{0, 2}},
		{ranged("a", api.Equal, "2"), []int{1, 2, 4, 5}, []int{2, 4}, []int{2}},
		{ranged("a", api.Less, "2"), []int{0, 1, 7}, []int{0, 7}, []int{0}},
		{ranged("a", api.Greater, "2"), []int{1}, nil, nil},
		{named("b"), []int{5}, []int{5}, nil},
		{named("/f"), []int{3, 6}, nil, nil},
		{named("nobody"), nil, nil, nil},
	} {
		r := jobs(api.Job{Kind: api.Install, Dep: c.d}, api.Job{Kind: api.Erase, Dep: c.d}, api.Job{Kind: api.Upgrade, Dep: c.d}, api.Job{Kind: api.Sync, Dep: c.d})
		for _, r := range []api.Request{r, edited(r, edit(api.DropJob, 0), edit(api.DropJob, 1), edit(api.DropJob, 2), edit(api.DropJob, 3))} {
			a := made(t, in, r)
			wantList(t, c.d.Name+": Install", a.Meant(0), c.install)
			wantList(t, c.d.Name+": Erase", a.Meant(1), c.erase)
			wantList(t, c.d.Name+": Upgrade", a.Meant(2), c.ofUpgrades)
			wantList(t, c.d.Name+": Sync", a.Meant(3), c.ofUpgrades)
			for _, j := range absent(4) {
				wantList(t, "a job that there is not", a.Meant(j), nil)
			}
		}
	}
}

// wantStates asks for just these states, of so many packages, that fulfil a job, however they are written.
func wantStates(t *testing.T, what string, a *ask.Ask, job, count int, want func(state []int) bool) {
	t.Helper()
	for _, state := range states(count) {
		yes := want(state)
		for _, same := range alike(state, count) {
			if a.Fulfils(job, same) != yes {
				t.Errorf("%s: %v: want %v", what, same, yes)
			}
		}
	}
}

// P15.2: which states fulfil jobs of each Kind, dropped or not, over all states of six packages.
func TestFulfils(t *testing.T) {
	in := input{
		[]api.Repo{repo(at("a", "2"), over(at("c", "1"), ranged("a", api.Equal, "1"))), repo(forArch(at("d", "1"), api.AArch64), at("a", "0"))},
		[]api.Package{at("a", "1"), at("d", "1")},
	} // 0: a 1, 1: d 1; 2: a 2, 3: c that obsoletes 0, 4: d that does not fit, 5: a 0
	in.repos[1].Packages[0].Provides = []api.Dep{named("a")}
	always := func([]int) bool { return true }
	among := func(l ...int) func([]int) bool { return func(state []int) bool { return one(state, l) } }
	noneOf := func(l ...int) func([]int) bool { return func(state []int) bool { return !one(state, l) } }
	both := func(a, b func([]int) bool) func([]int) bool {
		return func(state []int) bool { return a(state) && b(state) }
	}
	for _, c := range []struct {
		what string
		job  api.Job
		want func([]int) bool
	}{
		{"Install a", job(api.Install, "a"), among(0, 2, 4, 5)},
		{"Install a > 1", api.Job{Kind: api.Install, Dep: ranged("a", api.Greater, "1")}, among(2, 4)},
		{"Install c", job(api.Install, "c"), among(3)},
		{"Install nobody", job(api.Install, "nobody"), among()},
		{"Erase a", job(api.Erase, "a"), noneOf(0, 2, 5)},
		{"Erase a <= 1", api.Job{Kind: api.Erase, Dep: ranged("a", api.Less|api.Equal, "1")}, noneOf(0, 5)},
		{"Erase nobody", job(api.Erase, "nobody"), always},
		{"Upgrade a", job(api.Upgrade, "a"), among(0, 2, 3)},
		{"Upgrade a > 1", api.Job{Kind: api.Upgrade, Dep: ranged("a", api.Greater, "1")}, always},
		{"Upgrade d", job(api.Upgrade, "d"), among(1, 4)},
		{"Upgrade c", job(api.Upgrade, "c"), always},
		{"Sync a", job(api.Sync, "a"), among(2, 3, 5)},
		{"Sync a > 1", api.Job{Kind: api.Sync, Dep: ranged("a", api.Greater, "1")}, always},
		{"Sync d", job(api.Sync, "d"), always},
		{"Sync c", job(api.Sync, "c"), always},
	} {
		wantStates(t, c.what, made(t, in, jobs(c.job)), 0, 6, c.want)
		wantStates(t, c.what+", the last of three", made(t, in, jobs(job(api.Install, "d"), job(api.Upgrade, "a"), c.job)), 2, 6, c.want)
		a := made(t, in, edited(jobs(c.job), edit(api.AllowErase, 0)))
		wantStates(t, c.what+" with AllowErase", a, 0, 6, c.want)
		for _, j := range absent(1) {
			wantStates(t, "a job that there is not", a, j, 2, always)
		}
		if c.job.Kind != api.Sync {
			wantStates(t, c.what+", dropped", made(t, in, edited(jobs(c.job), edit(api.DropJob, 0))), 0, 6, c.want)
		}
	}
	drop := edit(api.DropJob, 0)
	wantStates(t, "Sync a, dropped", made(t, in, edited(jobs(job(api.Sync, "a")), drop)), 0, 6, among(2, 3))
	wantStates(t, "Sync a, dropped, with another one", made(t, in, edited(jobs(job(api.Sync, "a"), job(api.Sync, "a")), drop)), 0, 6, among(2, 3, 5))
	wantStates(t, "Upgrade a, with a Sync", made(t, in, jobs(job(api.Upgrade, "a"), job(api.Sync, "a"))), 0, 6, among(0, 2, 3, 5))
	wantStates(t, "Upgrade a, with AllowDown", made(t, in, edited(jobs(job(api.Upgrade, "a")), edit(api.AllowDown, 0))), 0, 6, among(0, 2, 3, 5))

	two := in
	two.installed = []api.Package{at("a", "1"), at("a", "2")} // 3 obsoletes the first one alone, and 4 has another name
	wantStates(t, "Upgrade of two", made(t, two, jobs(job(api.Upgrade, "a"))), 0, 6, both(among(0, 1, 2, 3), among(1, 2)))
	wantStates(t, "Sync of two", made(t, two, jobs(job(api.Sync, "a"))), 0, 6, both(among(2, 3, 5), among(2, 5)))
	wantStates(t, "Sync of one of two", made(t, two, jobs(api.Job{Kind: api.Sync, Dep: ranged("a", api.Less, "2")})), 0, 6, among(2, 3, 5))
	wantStates(t, "Upgrade of one of two", made(t, two, jobs(api.Job{Kind: api.Upgrade, Dep: ranged("a", api.Equal, "2")})), 0, 6, among(1, 2))
}

// P15.2: a Sync does not ask for what has no newcomers, and still asks for what has some.
func TestSyncOfSome(t *testing.T) {
	in := input{[]api.Repo{repo(forArch(at("a", "3"), api.I686), from(at("a", "3"), "w"))}, []api.Package{forArch(at("a", "1"), api.AArch64), forArch(at("a", "1"), api.X8664), from(at("a", "1"), "w")}}
	r := jobs(job(api.Sync, "a")) // 3 follows none but 2, whose Vendor is another one; 4 follows 2
	a := made(t, in, r)
	wantList(t, "newcomers of 0", a.Newcomers(0), nil)
	wantList(t, "newcomers of 1", a.Newcomers(1), nil)
	wantList(t, "newcomers of 2", a.Newcomers(2), []int{4})
	wantStates(t, "of one", a, 0, 5, func(state []int) bool { return slices.Contains(state, 4) })
	r.Vendor = true
	a = made(t, in, r)
	wantList(t, "newcomers of 0", a.Newcomers(0), []int{4})
	wantList(t, "newcomers of 1", a.Newcomers(1), []int{4})
	wantList(t, "newcomers of 2", a.Newcomers(2), []int{3, 4})
	wantStates(t, "of all", a, 0, 5, func(state []int) bool { return slices.Contains(state, 4) })
	r.Edits = []api.Edit{edit(api.AllowArch, 0), edit(api.AllowArch, 1)}
	wantStates(t, "of all, and other architectures", made(t, in, r), 0, 5, func(state []int) bool { return one(state, []int{3, 4}) })
}

// P15.1, P15.2: as many packages as there may be, and as many jobs and edits.
func TestGreat(t *testing.T) {
	var l []api.Package
	for n := range api.MaxPackages {
		l = append(l, providing(at("p", strconv.Itoa(n)), named("q"+strconv.Itoa(n))))
	}
	const half = api.MaxPackages / 2
	var r api.Request
	for j := range api.MaxJobs {
		r = edited(jobs(append(r.Jobs, []api.Job{job(api.Install, "q"+strconv.Itoa(4*j)), job(api.Erase, "p"), job(api.Upgrade, "p"), job(api.Sync, "p")}[j%4])...), r.Edits...)
		r.Edits = append(r.Edits, []api.Edit{edit(api.DropJob, j), edit(api.AllowErase, 2*j+1), edit(api.AllowDown, 2*j), edit(api.AllowArch, j)}[j%4])
	}
	all := numbers(0, api.MaxPackages)
	for what, in := range map[string]input{"of both": {[]api.Repo{repo(l[half:]...)}, l[:half]}, "installed": {nil, l}, "of a repository": {[]api.Repo{repo(l...)}, nil}} {
		r := r
		if what == "of a repository" {
			r.Edits = r.Edits[:1]
		}
		w := wordsOf(in, r)
		a := made(t, in, r)
		wantWords(t, w, a, [][]int{nil, all, all[:half], all[half:], {0}, {255}, {127, 128}, slices.Repeat(all, 50)})
	}
}
