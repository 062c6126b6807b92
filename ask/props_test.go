package ask_test

import (
	"reflect"
	"slices"
	"testing"

	"chandlery/api"
	"chandlery/ask"
	"chandlery/pkg"
	"chandlery/pool"
)

// wantWords asks for just what the words tell, of each package, each job, and some states.
func wantWords(t *testing.T, w words, a *ask.Ask, states [][]int) {
	t.Helper()
	for n := range w.all {
		if a.Fits(n) != fits(w.r.Arch, w.all[n].Arch) {
			t.Errorf("%v fits %d: %v", w.all[n], w.r.Arch, a.Fits(n))
		}
		for m := range w.all {
			if a.Twins(n, m) != w.twins(n, m) {
				t.Errorf("%v and %v are twins: %v", w.all[n], w.all[m], a.Twins(n, m))
			}
		}
		var successors, newcomers []int
		goes := n < w.installed && w.goes(n)
		if n < w.installed {
			successors, newcomers = w.successors(n), w.newcomers(n)
		}
		if a.Goes(n) != goes {
			t.Errorf("%v: %d may be removed: %v", w.r, n, a.Goes(n))
		}
		wantList(t, "successors", a.Successors(n), successors)
		wantList(t, "newcomers", a.Newcomers(n), newcomers)
	}
	for j, job := range w.r.Jobs {
		if a.Dropped(j) != w.has(api.DropJob, j) {
			t.Errorf("%v: %d is dropped: %v", w.r, j, a.Dropped(j))
		}
		wantList(t, "meant", a.Meant(j), w.meant(job))
		for _, state := range states {
			if a.Fulfils(j, state) != w.fulfils(job, state) {
				t.Errorf("%v fulfils %v: %v", state, job, a.Fulfils(j, state))
			}
		}
	}
}

// P15.1, P15.2: what is told is what the words of S3, S4 and the chapter say, over grown pools and requests.
func TestWords(t *testing.T) {
	told := map[uint8]map[bool]int{}
	newcomers, goes := 0, 0
	grown(300, 6, func(d *dice, in input, r api.Request) {
		w, a := wordsOf(in, r), made(t, in, r)
		var states [][]int
		for range 8 {
			states = append(states, d.state(len(w.all)))
		}
		wantWords(t, w, a, states)
		if got := a.Request(); !reflect.DeepEqual(got, r) {
			t.Errorf("the request is %v, want %v", got, r)
		}
		for j, job := range r.Jobs {
			if told[job.Kind] == nil {
				told[job.Kind] = map[bool]int{}
			}
			for _, state := range states {
				told[job.Kind][a.Fulfils(j, state)]++
			}
		}
		for i := range w.installed {
			newcomers += len(a.Newcomers(i))
			if a.Goes(i) {
				goes++
			}
		}
	})
	for kind := api.Install; kind <= api.Sync; kind++ {
		if told[kind][true] < 500 || told[kind][false] < 500 {
			t.Errorf("%d: %v: too few", kind, told[kind])
		}
	}
	if newcomers < 1000 || goes < 300 {
		t.Errorf("%d, %d: too few", newcomers, goes)
	}
}

// P15.2: what is told stands in increasing order, each number once, and is one of a package.
func TestIncreasing(t *testing.T) {
	grown(100, 4, func(d *dice, in input, r api.Request) {
		a := made(t, in, r)
		count := len(in.all())
		check := func(l []int) {
			for i, n := range l {
				if n < 0 || n >= count || i > 0 && l[i-1] >= n {
					t.Errorf("%v, of %d", l, count)
				}
			}
		}
		for i := range in.installed {
			check(a.Successors(i))
			check(a.Newcomers(i))
		}
		for j := range r.Jobs {
			check(a.Meant(j))
		}
	})
}

// within says whether all of a are in b.
func within(a, b []int) bool {
	return !slices.ContainsFunc(a, func(n int) bool { return !slices.Contains(b, n) })
}

// P15.3: an installed package is among its successors; newcomers are among them, fit, and are not installed.
func TestItself(t *testing.T) {
	grown(150, 4, func(d *dice, in input, r api.Request) {
		a := made(t, in, r)
		for i := range in.installed {
			of, new := a.Successors(i), a.Newcomers(i)
			if !slices.Contains(of, i) || !within(new, of) {
				t.Errorf("of %d: %v, %v", i, of, new)
			}
			for _, n := range new {
				if n < len(in.installed) || !a.Fits(n) {
					t.Errorf("a newcomer of %d: %d", i, n)
				}
			}
		}
	})
}

// P15.4: an additional edit does not remove any successor, nor does it forbid the removal of a package; except a DropJob.
func TestEditsMore(t *testing.T) {
	more, less, free, bound := 0, 0, 0, 0
	grown(400, 10, func(d *dice, in input, r api.Request) {
		x, ok := d.edit(len(r.Jobs), len(in.installed))
		if !ok {
			return
		}
		a, b := made(t, in, r), made(t, in, edited(r, x))
		for i := range in.installed {
			was, is := a.Successors(i), b.Successors(i)
			switch {
			case x.Kind == api.DropJob && !within(is, was):
				t.Errorf("%v added to %v: %v, then %v", x, r, was, is)
			case x.Kind != api.DropJob && (!within(was, is) || a.Goes(i) && !b.Goes(i)):
				t.Errorf("%v added to %v: of %d: %v, %v, then %v, %v", x, r, i, was, a.Goes(i), is, b.Goes(i))
			case x.Kind == api.DropJob && b.Goes(i) && !a.Goes(i):
				t.Errorf("%v added to %v: %d may be removed", x, r, i)
			}
			if len(was) < len(is) {
				more++
			} else if len(is) < len(was) {
				less++
			}
			if !a.Goes(i) && b.Goes(i) {
				free++
			} else if a.Goes(i) && !b.Goes(i) {
				bound++
			}
		}
	})
	if more < 50 || less < 20 || free < 50 || bound < 20 {
		t.Errorf("%d, %d, %d, %d: too few", more, less, free, bound)
	}
}

// P15.4: an edit that stands twice, and edits in another order, change nothing.
func TestEditsTwice(t *testing.T) {
	grown(100, 5, func(d *dice, in input, r api.Request) {
		w := wordsOf(in, r)
		state := d.state(len(w.all))
		other := r
		other.Edits = slices.Clone(r.Edits)
		slices.Reverse(other.Edits)
		wantWords(t, w, made(t, in, other), [][]int{state})
		wantWords(t, w, made(t, in, edited(r, r.Edits...)), [][]int{state})
	})
}

// P15.5: with additional packages a state fulfils each Install, Upgrade and Sync that it fulfilled; with fewer each Erase.
func TestLargerStates(t *testing.T) {
	kept, won := map[uint8]int{}, map[uint8]int{}
	grown(150, 6, func(d *dice, in input, r api.Request) {
		a := made(t, in, r)
		count := len(in.all())
		for range 6 {
			state := d.state(count)
			more := append(slices.Clone(state), d.state(count)...)
			for j, job := range r.Jobs {
				less, greater := a.Fulfils(j, state), a.Fulfils(j, more)
				if job.Kind == api.Erase {
					less, greater = greater, less
				}
				switch {
				case less && !greater:
					t.Errorf("%v: %v, and %v", job, state, more)
				case less:
					kept[job.Kind]++
				case greater:
					won[job.Kind]++
				}
			}
		}
	})
	for kind := api.Install; kind <= api.Sync; kind++ {
		if kept[kind] < 300 || won[kind] < 100 {
			t.Errorf("%d: %d, %d: too few", kind, kept[kind], won[kind])
		}
	}
}

// P15.6: the state of the installed packages fulfils each Upgrade; the empty state each Erase.
func TestUnchanged(t *testing.T) {
	upgrades, erases := 0, 0
	grown(150, 6, func(d *dice, in input, r api.Request) {
		a := made(t, in, r)
		state := numbers(0, len(in.installed))
		for j, job := range r.Jobs {
			switch job.Kind {
			case api.Upgrade:
				upgrades += len(a.Meant(j))
				if !a.Fulfils(j, state) {
					t.Errorf("the installed ones do not fulfil %v", job)
				}
			case api.Erase:
				erases += len(a.Meant(j))
				if !a.Fulfils(j, nil) || !a.Fulfils(j, []int{}) || !a.Fulfils(j, absent(len(in.all()))) {
					t.Errorf("the empty state does not fulfil %v", job)
				}
			}
		}
	})
	if upgrades < 300 || erases < 300 {
		t.Errorf("%d, %d: too few", upgrades, erases)
	}
}

// P15.7: Twins is symmetric; no package is its own twin.
func TestTwinsTurned(t *testing.T) {
	pairs := 0
	grown(150, 1, func(d *dice, in input, r api.Request) {
		a := made(t, in, r)
		for n := range len(in.all()) + 1 {
			for m := range n + 1 {
				if a.Twins(n, m) != a.Twins(m, n) || n == m && a.Twins(n, m) {
					t.Errorf("%d and %d: %v, %v", n, m, a.Twins(n, m), a.Twins(m, n))
				}
				if a.Twins(n, m) {
					pairs++
				}
			}
		}
	})
	if pairs < 300 {
		t.Errorf("%d: too few", pairs)
	}
}

// P15.2: a state is what it has, in whatever order, however often, and whatever numbers of no package there are.
func TestAlike(t *testing.T) {
	grown(100, 4, func(d *dice, in input, r api.Request) {
		a := made(t, in, r)
		count := len(in.all())
		state := d.state(count)
		for j, job := range r.Jobs {
			want := a.Fulfils(j, state)
			for _, same := range alike(state, count) {
				if a.Fulfils(j, same) != want {
					t.Errorf("%v: %v: %v, and %v not", job, state, want, same)
				}
			}
		}
	})
}

// R1: what is handed in stays as it was, behind the ends of the lists, too.
func TestHandedIn(t *testing.T) {
	grown(100, 4, func(d *dice, in input, r api.Request) {
		p := poolOf(t, in)
		long := r
		long.Jobs = append(slices.Clone(r.Jobs), job(api.Erase, "behind"), api.Job{})
		long.Edits = append(slices.Clone(r.Edits), edit(api.DropJob, 0), edit(9, 9))
		jobs, edits := slices.Clone(long.Jobs), slices.Clone(long.Edits)
		handed := r
		handed.Jobs, handed.Edits = long.Jobs[:len(r.Jobs)], long.Edits[:len(r.Edits)]
		a, e := ask.New(p, handed)
		if e != api.OK {
			t.Fatal(e)
		}
		state := append(d.state(len(in.all())), 0, 77, -5)
		before := slices.Clone(state)
		for j := range r.Jobs {
			a.Fulfils(j, state[:len(state)-3])
		}
		if !slices.Equal(state, before) || !slices.Equal(long.Jobs, jobs) || !slices.Equal(long.Edits, edits) {
			t.Errorf("now %v, %v, %v", state, long.Jobs, long.Edits)
		}
		for n, want := range in.all() {
			if got, e := p.Package(n); e != api.OK || !pkg.Same(got, want) {
				t.Errorf("%d of the pool is now %v, of %v", n, got, want)
			}
		}
	})
}

// R1: requests that are refused stay as they were, too.
func TestHandedInWrong(t *testing.T) {
	p := poolOf(t, input{installed: []api.Package{at("a", "1")}})
	for _, r := range []api.Request{
		{Jobs: []api.Job{job(api.Install, "a")}, Edits: []api.Edit{edit(api.DropJob, 0)}},
		jobs(job(api.Sync, "a"), job(9, "a"), job(api.Erase, "if")),
		edited(jobs(job(api.Sync, "a")), edit(api.DropJob, 1), edit(api.DropJob, 0)),
	} {
		before := r
		before.Jobs, before.Edits = slices.Clone(r.Jobs), slices.Clone(r.Edits)
		for _, p := range []*pool.Pool{nil, p} {
			if a, e := ask.New(p, r); a != nil || e == api.OK {
				t.Errorf("%v: %v, %d", r, a, e)
			}
			if !reflect.DeepEqual(r, before) {
				t.Errorf("now %v, of %v", r, before)
			}
		}
	}
}

// R1: what was handed in may be changed afterwards, and nothing that is told later hangs on it.
func TestChangedArguments(t *testing.T) {
	grown(100, 4, func(d *dice, in input, r api.Request) {
		w := wordsOf(in, r)
		w.r.Jobs, w.r.Edits = slices.Clone(r.Jobs), slices.Clone(r.Edits)
		for n, one := range w.all {
			w.all[n] = pkg.Copy(one)
		}
		p := poolOf(t, in)
		a, e := ask.New(p, r)
		if e != api.OK {
			t.Fatal(e)
		}
		for j := range r.Jobs {
			r.Jobs[j] = job(1+r.Jobs[j].Kind%4, "changed")
		}
		for i := range r.Edits {
			r.Edits[i] = edit(api.AllowErase, 0)
		}
		for i := range in.installed {
			in.installed[i].Name, in.installed[i].Arch = "changed", api.NoArch
		}
		wantWords(t, w, a, [][]int{d.state(len(w.all)), d.state(len(w.all))})
		if got := a.Request(); !reflect.DeepEqual(got, w.r) {
			t.Errorf("the request is now %v, of %v", got, w.r)
		}
		*p = pool.Pool{}
		wantWords(t, w, a, [][]int{d.state(len(w.all))})
	})
}

// R1: what is told may be changed afterwards, up to its capacity; nothing that is told again hangs on it.
func TestChangedResults(t *testing.T) {
	grown(100, 4, func(d *dice, in input, r api.Request) {
		w, a := wordsOf(in, r), made(t, in, r)
		spoil := func(l []int) {
			_ = append(l, 55)
			l = l[:cap(l)]
			for i := range l {
				l[i] = -7 - i
			}
		}
		for i := range in.installed {
			first, second := a.Successors(i), a.Newcomers(i)
			want := slices.Clone(second)
			spoil(first)
			wantList(t, "newcomers, told before", second, want)
			spoil(second)
		}
		for j := range r.Jobs {
			first, second := a.Meant(j), a.Meant(j)
			spoil(first)
			wantList(t, "meant, told before", second, w.meant(r.Jobs[j]))
			spoil(second)
		}
		first, second := a.Request(), a.Request()
		for j := range first.Jobs {
			first.Jobs[j] = job(api.Erase, "changed")
		}
		for i := range first.Edits {
			first.Edits[i] = edit(api.AllowErase, 0)
		}
		_, _ = append(first.Jobs, job(api.Erase, "behind")), append(first.Edits, edit(api.DropJob, 0))
		if !reflect.DeepEqual(second, w.r) || !reflect.DeepEqual(a.Request(), w.r) {
			t.Errorf("the request is now %v and %v, of %v", second, a.Request(), w.r)
		}
		wantWords(t, w, a, [][]int{d.state(len(w.all)), d.state(len(w.all))})
	})
}

// R1: a job's texts are copies, of what New was given and of what is told.
func TestTexts(t *testing.T) {
	name, ver, rel := []byte("name"), []byte("1.0"), []byte("1")
	d := api.Dep{Name: string(name), Op: api.Equal, EVR: api.EVR{Ver: string(ver), Rel: string(rel)}}
	a := made(t, input{installed: []api.Package{at("name", "1.0")}}, jobs(api.Job{Kind: api.Upgrade, Dep: d}))
	got := a.Request().Jobs[0].Dep
	if got != d {
		t.Fatalf("%v, want %v", got, d)
	}
	again := a.Request().Jobs[0].Dep
	for _, pair := range [][2]string{{got.Name, d.Name}, {got.EVR.Ver, d.EVR.Ver}, {got.EVR.Rel, d.EVR.Rel}, {got.Name, again.Name}, {got.EVR.Ver, again.EVR.Ver}, {got.EVR.Rel, again.EVR.Rel}} {
		if reflect.ValueOf(pair[0]).UnsafePointer() == reflect.ValueOf(pair[1]).UnsafePointer() {
			t.Errorf("%q: shared memory", pair[0])
		}
	}
}

// R1: what is told hangs on nothing that was asked before, nor on another ask over the same pool.
func TestAnyOrder(t *testing.T) {
	grown(60, 3, func(d *dice, in input, r api.Request) {
		p := poolOf(t, in)
		a, e := ask.New(p, r)
		if e != api.OK {
			t.Fatal(e)
		}
		other, e := ask.New(p, d.request(in))
		if e != api.OK || other.Pool() != a.Pool() {
			t.Fatal(e)
		}
		w, x := wordsOf(in, r), wordsOf(in, other.Request())
		state := d.state(len(w.all))
		wantWords(t, w, a, [][]int{state})
		wantWords(t, x, other, [][]int{state})
		wantWords(t, w, a, [][]int{d.state(len(w.all)), state, nil})
	})
}

// R1: each call ends, whatever the numbers and states are.
func TestAnything(t *testing.T) {
	grown(30, 2, func(d *dice, in input, r api.Request) {
		a := made(t, in, r)
		count := len(in.all())
		state := slices.Repeat(append(absent(count), numbers(0, count)...), 100)
		w := wordsOf(in, r)
		for j, job := range r.Jobs {
			if a.Fulfils(j, state) != w.fulfils(job, state) {
				t.Errorf("%v: a long state", job)
			}
		}
		for _, n := range absent(max(count, len(r.Jobs))) {
			if a.Fits(n) || a.Twins(n, n) || a.Dropped(n) || a.Goes(n) || a.Successors(n) != nil || a.Newcomers(n) != nil || a.Meant(n) != nil || !a.Fulfils(n, state) {
				t.Errorf("%d, which there is not", n)
			}
		}
	})
}
