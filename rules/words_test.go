package rules_test

import (
	"slices"

	"chandlery/api"
	"chandlery/evr"
	"chandlery/pkg"
)

// words tell what a state must satisfy by the words of S3 and S4, over a pool of some packages, the first ones of which are installed.
type words struct {
	all       []api.Package
	installed int
	r         api.Request
}

// wordsOf are those of a request over an input.
func wordsOf(in input, r api.Request) words { return words{in.all(), len(in.installed), r} }

// has says whether there is an edit.
func (w words) has(kind uint8, n int) bool { return slices.Contains(w.r.Edits, edit(kind, n)) }

// fits says whether an architecture fits that of the machine.
func (w words) fits(a uint8) bool {
	return a == w.r.Arch || a == api.NoArch || w.r.Arch == api.X8664 && a == api.I686
}

// job says whether a job of that Kind that is not dropped names a package.
func (w words) job(kind uint8, n int) bool {
	yes := false
	for j, one := range w.r.Jobs {
		if one.Kind == kind && pkg.Named(w.all[n], one.Dep) && !w.has(api.DropJob, j) {
			yes = true
		}
	}
	return yes
}

// succeeds says whether a package is a successor of an installed one.
func (w words) succeeds(n, i int) bool {
	p, old := w.all[n], w.all[i]
	switch {
	case n == i:
		return true
	case pkg.Obsoletes(p, old):
		return true
	case p.Name != old.Name:
		return false
	case evr.Compare(p.EVR, old.EVR) < 0 && !w.has(api.AllowDown, i) && !w.job(api.Sync, i):
		return false
	case p.Arch != old.Arch && p.Arch != api.NoArch && old.Arch != api.NoArch && !w.has(api.AllowArch, i):
		return false
	}
	return p.Vendor == old.Vendor || w.r.Vendor
}

// twins says whether two packages are twins.
func (w words) twins(n, m int) bool {
	p, q := w.all[n], w.all[m]
	apart := p.Arch != q.Arch && p.Arch != api.NoArch && q.Arch != api.NoArch
	return n != m && p.Name == q.Name && !(apart && evr.Compare(p.EVR, q.EVR) == 0)
}

// exists says whether an item exists, by the table of S4.
func (w words) exists(x api.Item) bool {
	there := func(n, count int) bool { return n >= 0 && n < count }
	if x.Kind == api.JobItem {
		return there(x.P, len(w.r.Jobs)) && x.Q == 0 && !w.has(api.DropJob, x.P)
	}
	if !there(x.P, len(w.all)) {
		return false
	}
	p := w.all[x.P]
	switch x.Kind {
	case api.ArchItem:
		return x.Q == 0 && !w.fits(p.Arch)
	case api.NeedItem:
		return there(x.Q, len(p.Requires))
	case api.ClashItem:
		return there(x.Q, len(p.Conflicts))
	case api.OverItem:
		return there(x.Q, len(p.Obsoletes))
	case api.TwinItem:
		return there(x.Q, len(w.all)) && x.P < x.Q && w.twins(x.P, x.Q)
	case api.KeepItem:
		return x.P < w.installed && x.Q == 0 && !w.job(api.Erase, x.P) && !w.has(api.AllowErase, x.P)
	}
	return false
}

// items are all that exist, in the order of S4.
func (w words) items() []api.Item {
	var l []api.Item
	put := func(kind uint8, p, most int) {
		for q := range most {
			if x := item(kind, p, q); w.exists(x) {
				l = append(l, x)
			}
		}
	}
	for p := range w.all {
		put(api.ArchItem, p, 1)
		put(api.NeedItem, p, api.MaxDeps)
		put(api.ClashItem, p, api.MaxDeps)
		put(api.OverItem, p, api.MaxDeps)
	}
	for p := range w.all {
		put(api.TwinItem, p, len(w.all))
	}
	for p := range w.all {
		put(api.KeepItem, p, 1)
	}
	for j := range w.r.Jobs {
		put(api.JobItem, j, 1)
	}
	return l
}

// crowd is a state: the packages that it has, by number.
type crowd map[int]api.Package

// crowd is that of a list.
func (w words) crowd(state []int) crowd {
	in := crowd{}
	for _, n := range state {
		if n >= 0 && n < len(w.all) {
			in[n] = w.all[n]
		}
	}
	return in
}

// some says whether a condition holds of one of its packages.
func (in crowd) some(condition func(n int) bool) bool {
	for n := range in {
		if condition(n) {
			return true
		}
	}
	return false
}

// how many of some rich dependencies it satisfies.
func (in crowd) how(l []api.Rich) int {
	n := 0
	for _, r := range l {
		if in.by(r) {
			n++
		}
	}
	return n
}

// by says whether it satisfies a rich dependency.
func (in crowd) by(r api.Rich) bool {
	three := len(r.Args) == 3
	yes := func(i int) bool { return in.by(r.Args[i]) }
	switch r.Kind {
	case api.Atom:
		return in.some(func(n int) bool { return pkg.Provides(in[n], r.Dep) })
	case api.And:
		return in.how(r.Args) == len(r.Args)
	case api.Or:
		return in.how(r.Args) > 0
	case api.If:
		return three && (yes(1) && yes(0) || !yes(1) && yes(2)) || !three && (yes(0) || !yes(1))
	case api.Unless:
		return three && (yes(1) && yes(2) || !yes(1) && yes(0)) || !three && yes(0) && !yes(1)
	}
	return in.some(func(n int) bool {
		alone := crowd{n: in[n]}
		if r.Kind == api.With {
			return alone.how(r.Args) == len(r.Args)
		}
		return alone.by(r.Args[0]) && !alone.by(r.Args[1])
	})
}

// without is the state without a package.
func (in crowd) without(n int) crowd {
	less := crowd{}
	for m, p := range in {
		if m != n {
			less[m] = p
		}
	}
	return less
}

// fulfils says whether a state fulfils a job.
func (w words) fulfils(in crowd, job api.Job) bool {
	switch job.Kind {
	case api.Install:
		return in.some(func(n int) bool { return pkg.Provides(in[n], job.Dep) })
	case api.Erase:
		return !in.some(func(n int) bool { return pkg.Named(in[n], job.Dep) })
	}
	for i := range w.installed {
		may := func(n int) bool {
			return w.succeeds(n, i) && (job.Kind == api.Upgrade || n >= w.installed && w.fits(w.all[n].Arch))
		}
		must := job.Kind == api.Upgrade || slices.ContainsFunc(numbers(0, len(w.all)), may)
		if pkg.Named(w.all[i], job.Dep) && must && !in.some(may) {
			return false
		}
	}
	return true
}

// holds says whether a state satisfies an item, by the table of S4.
func (w words) holds(in crowd, x api.Item) bool {
	if !w.exists(x) {
		return true
	}
	p, there := in[x.P]
	switch x.Kind {
	case api.ArchItem:
		return !there
	case api.NeedItem:
		return !there || in.by(p.Requires[x.Q])
	case api.ClashItem:
		return !there || !in.without(x.P).by(p.Conflicts[x.Q])
	case api.OverItem:
		return !there || !in.some(func(n int) bool { return n != x.P && pkg.Named(in[n], p.Obsoletes[x.Q]) })
	case api.TwinItem:
		_, both := in[x.Q]
		return !(there && both)
	case api.KeepItem:
		return in.some(func(n int) bool { return w.succeeds(n, x.P) })
	}
	return w.fulfils(in, w.r.Jobs[x.P])
}

// which are the numbers from one up to another one, which is not one of them, of which a condition holds.
func which(from, to int, condition func(n int) bool) []int {
	return slices.DeleteFunc(numbers(from, to), func(n int) bool { return !condition(n) })
}

// positive are the literals by which packages are there.
func positive(l []int) []int {
	var clause []int
	for _, n := range l {
		clause = append(clause, 1+n)
	}
	return clause
}

// plain are the clauses of an item that exists, and that is about packages alone, by the table of the chapter's Terms.
func (w words) plain(x api.Item) [][]int {
	var l [][]int
	put := func(clause ...int) { l = append(l, clause) }
	count := len(w.all)
	switch x.Kind {
	case api.ArchItem:
		put(-1 - x.P)
	case api.OverItem:
		for n := range count {
			if n != x.P && pkg.Named(w.all[n], w.all[x.P].Obsoletes[x.Q]) {
				put(-1-x.P, -1-n)
			}
		}
	case api.TwinItem:
		put(-1-x.P, -1-x.Q)
	case api.KeepItem:
		put(positive(which(0, count, func(n int) bool { return w.succeeds(n, x.P) }))...)
	case api.JobItem:
		return w.ofJob(w.r.Jobs[x.P])
	}
	return l
}

// ofJob are the clauses of a job.
func (w words) ofJob(one api.Job) [][]int {
	count := len(w.all)
	named := func(n int) bool { return pkg.Named(w.all[n], one.Dep) }
	var l [][]int
	switch one.Kind {
	case api.Install:
		return [][]int{positive(which(0, count, func(n int) bool { return pkg.Provides(w.all[n], one.Dep) }))}
	case api.Erase:
		for _, n := range which(0, count, named) {
			l = append(l, []int{-1 - n})
		}
	case api.Upgrade:
		for _, i := range which(0, w.installed, named) {
			l = append(l, positive(which(0, count, func(n int) bool { return w.succeeds(n, i) })))
		}
	case api.Sync:
		for _, i := range which(0, w.installed, named) {
			newcomers := which(w.installed, count, func(n int) bool { return w.succeeds(n, i) && w.fits(w.all[n].Arch) })
			if len(newcomers) > 0 {
				l = append(l, positive(newcomers))
			}
		}
	}
	return l
}

// good says whether a state satisfies all items.
func (w words) good(state []int) bool {
	in := w.crowd(state)
	return !slices.ContainsFunc(w.items(), func(x api.Item) bool { return !w.holds(in, x) })
}
