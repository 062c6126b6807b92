package model_test

import (
	"reflect"
	"slices"
	"testing"

	"chandlery/api"
	"chandlery/ask"
	"chandlery/model"
	"chandlery/pkg"
	"chandlery/pool"
)

// around are items that exist, and ones that are next to these, or of no Kind.
func around(d *dice, l []api.Item) []api.Item {
	near := slices.Clone(l)
	for _, x := range l {
		near = append(near,
			item(x.Kind, x.P, x.Q+1), item(x.Kind, x.P, x.Q-1), item(x.Kind, x.P+1, x.Q), item(x.Kind, x.P-1, x.Q),
			item(x.Kind+1, x.P, x.Q), item(x.Kind-1, x.P, x.Q), item(x.Kind, x.Q, x.P), item(uint8(d.roll(256)), x.P, x.Q),
		)
	}
	for range 20 {
		near = append(near, item(uint8(d.roll(10)), pick(d, append(absent(3), 0, 1, 2)...), pick(d, append(absent(3), 0, 0, 0, 1, 2)...)))
	}
	return near
}

// wantWords asks for just what the words tell, of items that exist and others, and of some states.
func wantWords(t *testing.T, d *dice, w words, m *model.Model, states [][]int) {
	t.Helper()
	all := w.items()
	wantItems(t, "items", m.Items(), all...)
	near := around(d, all)
	for _, x := range near {
		if m.Is(x) != w.exists(x) {
			t.Errorf("%v is there: %v", x, m.Is(x))
		}
	}
	for _, state := range states {
		broken := w.broken(state)
		wantItems(t, "broken", m.Broken(state), broken...)
		in := w.crowd(state)
		for _, x := range near {
			if m.Holds(state, x) != w.holds(in, x) {
				t.Errorf("%v satisfies %v: %v", state, x, m.Holds(state, x))
			}
		}
		some := listOf(d, 4, func() api.Item { return pick(d, near...) })
		if want := !slices.ContainsFunc(some, func(x api.Item) bool { return !w.holds(in, x) }); m.Kept(state, some) != want {
			t.Errorf("%v satisfies all of %v: want %v", state, some, want)
		}
		if m.Good(state) != (len(broken) == 0) {
			t.Errorf("%v is good: %v, but %v", state, m.Good(state), broken)
		}
	}
}

// P16.1, P16.2: what is told is what the words of S3 and S4 say, over grown pools and requests.
func TestWords(t *testing.T) {
	var told [api.JobItem + 1]map[bool]int
	for kind := range told {
		told[kind] = map[bool]int{}
	}
	grown(200, 5, 4, func(d *dice, in input, r api.Request) {
		w, m := wordsOf(in, r), made(t, in, r)
		states := d.states(6, len(w.all))
		wantWords(t, d, w, m, states)
		for _, x := range m.Items() {
			for _, state := range states {
				told[x.Kind][m.Holds(state, x)]++
			}
		}
	})
	for kind := api.ArchItem; kind <= api.JobItem; kind++ {
		if told[kind][true] < 500 || told[kind][false] < 500 {
			t.Errorf("%d: %v: too few", kind, told[kind])
		}
	}
}

// P16.2: which states are good, over all states of small pools.
func TestAllStates(t *testing.T) {
	good := map[bool]int{}
	grown(250, 2, 3, func(d *dice, in input, r api.Request) {
		w := wordsOf(in, r)
		if len(w.all) > 7 {
			return
		}
		m := made(t, in, r)
		for _, state := range states(len(w.all)) {
			want := len(w.broken(state)) == 0
			if m.Good(state) != want {
				t.Errorf("%v is good: %v", state, !want)
			}
			good[want]++
		}
	})
	if good[true] < 500 || good[false] < 500 {
		t.Errorf("%v: too few", good)
	}
}

// order is where an item of a Kind stands: those of packages stand together.
func order(x api.Item) []int {
	if x.Kind <= api.OverItem {
		return []int{0, x.P, int(x.Kind), x.Q}
	}
	return []int{int(x.Kind), x.P, x.Q}
}

// P16.1: the items stand in their order, each once, and just these exist.
func TestOrder(t *testing.T) {
	grown(100, 5, 3, func(d *dice, in input, r api.Request) {
		m := made(t, in, r)
		l := m.Items()
		for i, x := range l {
			if i > 0 && slices.Compare(order(l[i-1]), order(x)) >= 0 {
				t.Errorf("%v ahead of %v", l[i-1], x)
			}
			if !m.Is(x) {
				t.Errorf("%v is not there", x)
			}
		}
		for _, x := range around(d, l) {
			if m.Is(x) != slices.Contains(l, x) {
				t.Errorf("%v is there: %v", x, m.Is(x))
			}
		}
	})
}

// P16.3: the state without packages satisfies all items except KeepItems and JobItems, and among these those of an Erase.
func TestEmptyState(t *testing.T) {
	var told [api.JobItem + 1]int
	kept, erases := 0, 0
	grown(200, 5, 4, func(d *dice, in input, r api.Request) {
		m := made(t, in, r)
		for _, state := range [][]int{nil, {}, absent(len(in.all()))} {
			broken := m.Broken(state)
			for _, x := range m.Items() {
				told[x.Kind]++
				yes := m.Holds(state, x)
				switch {
				case yes == slices.Contains(broken, x):
					t.Errorf("%v: %v, but %v", x, yes, broken)
				case x.Kind == api.KeepItem && yes:
					t.Errorf("%v is satisfied", x)
				case x.Kind == api.KeepItem:
					kept++
				case x.Kind == api.JobItem && r.Jobs[x.P].Kind != api.Erase:
				case !yes:
					t.Errorf("%v is not satisfied", x)
				case x.Kind == api.JobItem:
					erases++
				}
			}
		}
	})
	for kind := api.ArchItem; kind <= api.JobItem; kind++ {
		if told[kind] < 500 {
			t.Errorf("%d: %d: too few", kind, told[kind])
		}
	}
	if kept < 500 || erases < 500 {
		t.Errorf("%d, %d: too few", kept, erases)
	}
}

// P16.4: with fewer packages an ArchItem, an OverItem and a TwinItem stay satisfied; with more a KeepItem does.
func TestFewerAndMore(t *testing.T) {
	var stay, change [api.JobItem + 1]int
	grown(200, 5, 4, func(d *dice, in input, r api.Request) {
		m := made(t, in, r)
		count := len(in.all())
		for range 4 {
			fewer := d.state(count)
			more := append(d.state(count), fewer...)
			for _, x := range m.Items() {
				first, second := m.Holds(more, x), m.Holds(fewer, x)
				switch x.Kind {
				case api.KeepItem:
					first, second = second, first
				case api.ArchItem, api.OverItem, api.TwinItem:
				default:
					continue
				}
				switch {
				case first && !second:
					t.Errorf("%v: of %v and %v", x, fewer, more)
				case first:
					stay[x.Kind]++
				case second:
					change[x.Kind]++
				}
			}
		}
	})
	for _, kind := range []uint8{api.ArchItem, api.OverItem, api.TwinItem, api.KeepItem} {
		if stay[kind] < 300 || change[kind] < 50 {
			t.Errorf("%d: %d, %d: too few", kind, stay[kind], change[kind])
		}
	}
}

// P16.5: what is installed satisfies all KeepItems; it is good if there are no jobs, and it satisfies the items of packages.
func TestUnchanged(t *testing.T) {
	good := map[bool]int{}
	keeps := 0
	grown(400, 3, 4, func(d *dice, in input, r api.Request) {
		if d.roll(2) == 0 {
			r.Jobs, r.Edits = nil, slices.DeleteFunc(r.Edits, func(x api.Edit) bool { return x.Kind == api.DropJob })
		}
		m := made(t, in, r)
		state := numbers(0, len(in.installed))
		must := true
		for _, x := range m.Items() {
			yes := m.Holds(state, x)
			switch x.Kind {
			case api.JobItem:
			case api.KeepItem:
				keeps++
				if !yes {
					t.Errorf("%v is not satisfied", x)
				}
			default:
				must = must && yes
			}
		}
		if len(r.Jobs) > 0 || len(state) == 0 {
			return
		}
		good[must]++
		if m.Good(state) != must {
			t.Errorf("what is installed is good: %v", m.Good(state))
		}
	})
	if good[true] < 100 || good[false] < 100 || keeps < 1000 {
		t.Errorf("%v, %d: too few", good, keeps)
	}
}

// P16.6: a state is good exactly if nothing is Broken, and exactly if it is Kept for all Items.
func TestGood(t *testing.T) {
	good := map[bool]int{}
	grown(400, 2, 3, func(d *dice, in input, r api.Request) {
		m := made(t, in, r)
		l := m.Items()
		for _, state := range append(d.states(6, len(in.all())), nil) {
			broken := m.Broken(state)
			is := m.Good(state)
			good[is]++
			if is != (len(broken) == 0) || is != m.Kept(state, l) {
				t.Errorf("%v: %v, %v, %v", state, is, broken, m.Kept(state, l))
			}
			fine := slices.DeleteFunc(slices.Clone(l), func(x api.Item) bool { return !m.Holds(state, x) })
			if !m.Kept(state, fine) || len(fine)+len(broken) != len(l) || len(broken) > 0 && m.Kept(state, broken[len(broken)-1:]) {
				t.Errorf("%v: %v, %v", state, fine, broken)
			}
		}
	})
	if good[true] < 300 || good[false] < 300 {
		t.Errorf("%v: too few", good)
	}
}

// P16.2: a state is what it has, in whatever order, however often, and whatever numbers of no package there are.
func TestAlike(t *testing.T) {
	grown(100, 5, 3, func(d *dice, in input, r api.Request) {
		m := made(t, in, r)
		count := len(in.all())
		state := d.state(count)
		want := m.Broken(state)
		for _, same := range alike(state, count) {
			wantItems(t, "broken", m.Broken(same), want...)
			for _, x := range m.Items() {
				if m.Holds(same, x) != m.Holds(state, x) {
					t.Errorf("%v: %v and %v", x, state, same)
				}
			}
			if m.Good(same) != m.Good(state) || m.Kept(same, want) != m.Kept(state, want) {
				t.Errorf("%v and %v", state, same)
			}
		}
	})
}

// R1: what is handed in stays as it was, behind the ends of the lists, too.
func TestHandedIn(t *testing.T) {
	grown(80, 5, 3, func(d *dice, in input, r api.Request) {
		a, p := asked(t, in, r)
		m := modelOf(t, a)
		state := append(d.state(len(in.all())), 0, 77, -5)
		l := append(around(d, m.Items()), item(9, 9), item(api.KeepItem, 0))
		before, items := slices.Clone(state), slices.Clone(l)
		short, some := state[:len(state)-3], l[:len(l)-2]
		for _, x := range l {
			m.Holds(short, x)
			m.Is(x)
		}
		m.Kept(short, some)
		m.Kept(short, slices.DeleteFunc(slices.Clone(some), func(x api.Item) bool { return !m.Holds(short, x) }))
		m.Broken(short)
		m.Good(short)
		if !slices.Equal(state, before) || !slices.Equal(l, items) {
			t.Errorf("now %v, %v", state, l)
		}
		for n, want := range in.all() {
			if got, e := p.Package(n); e != api.OK || !pkg.Same(got, want) {
				t.Errorf("%d of the pool is now %v, of %v", n, got, want)
			}
		}
		if !reflect.DeepEqual(a.Request(), r) {
			t.Errorf("the request is now %v, of %v", a.Request(), r)
		}
	})
}

// R1: what the pool and the request were made of may be changed afterwards, and so may the pool; nothing that is told hangs on it.
func TestChangedArguments(t *testing.T) {
	grown(80, 5, 3, func(d *dice, in input, r api.Request) {
		w := wordsOf(in, r)
		w.r.Jobs, w.r.Edits = slices.Clone(r.Jobs), slices.Clone(r.Edits)
		for n, one := range w.all {
			w.all[n] = pkg.Copy(one)
		}
		a, p := asked(t, in, r)
		m := modelOf(t, a)
		for j := range r.Jobs {
			r.Jobs[j] = job(1+r.Jobs[j].Kind%4, "changed")
		}
		for i := range r.Edits {
			r.Edits[i] = edit(api.AllowErase, 0)
		}
		for _, one := range in.all() {
			for q := range one.Requires {
				one.Requires[q] = atom("changed")
			}
			for q := range one.Conflicts {
				one.Conflicts[q] = atom("a")
			}
			for q := range one.Obsoletes {
				one.Obsoletes[q] = named("a")
			}
		}
		wantWords(t, d, w, m, d.states(2, len(w.all)))
		*p = pool.Pool{}
		wantWords(t, d, w, m, d.states(2, len(w.all)))
	})
}

// R1: what is told may be changed afterwards, up to its capacity; nothing that is told again hangs on it.
func TestChangedResults(t *testing.T) {
	grown(80, 5, 3, func(d *dice, in input, r api.Request) {
		w, m := wordsOf(in, r), made(t, in, r)
		state := d.state(len(w.all))
		spoil := func(l []api.Item) {
			_ = append(l, item(55, 55, 55))
			l = l[:cap(l)]
			for i := range l {
				l[i] = item(77, -i, i)
			}
		}
		first, second, third, fourth := m.Items(), m.Broken(state), m.Items(), m.Broken(state)
		spoil(first)
		wantItems(t, "broken, told before", second, w.broken(state)...)
		spoil(second)
		wantItems(t, "items, told before", third, w.items()...)
		spoil(third)
		wantItems(t, "broken, told before", fourth, w.broken(state)...)
		spoil(fourth)
		wantWords(t, d, w, m, [][]int{state, d.state(len(w.all))})
	})
}

// R1: what is told hangs on nothing that was asked before, nor on another model of the same ask, or pool.
func TestAnyOrder(t *testing.T) {
	grown(60, 5, 2, func(d *dice, in input, r api.Request) {
		a, p := asked(t, in, r)
		m, same := modelOf(t, a), modelOf(t, a)
		b, e := ask.New(p, d.request(in))
		if e != api.OK {
			t.Fatal(e)
		}
		other := modelOf(t, b)
		w, x := wordsOf(in, r), wordsOf(in, b.Request())
		state := d.state(len(w.all))
		if m.Good(state) != same.Good(state) {
			t.Errorf("%v: %v", state, m.Good(state))
		}
		wantWords(t, d, w, m, [][]int{state})
		wantWords(t, d, x, other, [][]int{state})
		wantWords(t, d, w, same, [][]int{state})
		wantWords(t, d, w, m, [][]int{d.state(len(w.all)), state, nil})
	})
}
