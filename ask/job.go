package ask

import (
	"slices"

	"chandlery/api"
	"chandlery/arch"
	"chandlery/evr"
)

// means are the packages that a job means.
func (a *Ask) means(job api.Job) []int {
	switch job.Kind {
	case api.Install:
		return a.index.Providers(job.Dep)
	case api.Erase:
		return a.index.Named(job.Dep)
	}
	return slices.DeleteFunc(a.index.Named(job.Dep), func(n int) bool { return n >= a.pool.Installed() })
}

// succeed are the successors of an installed package: itself is among those of its name.
func (a *Ask) succeed(i int) []int {
	old, down, turned := a.packages[i], a.down(i), a.edited(api.AllowArch, i)
	may := func(n int) bool {
		one := a.packages[n]
		return (down || evr.Compare(one.EVR, old.EVR) >= 0) &&
			(turned || arch.Follows(old.Arch, one.Arch)) &&
			(a.request.Vendor || one.Vendor == old.Vendor)
	}
	of := slices.DeleteFunc(a.pool.Named(old.Name), func(n int) bool { return !may(n) })
	l := slices.Concat(of, a.index.Obsoleters(i))
	slices.Sort(l)
	return slices.Compact(l)
}

// Successors are those of an installed package.
func (a *Ask) Successors(i int) []int {
	if !a.has(i) {
		return nil
	}
	return slices.Clone(a.successors[i])
}

// Newcomers are its successors of the repositories, that fit.
func (a *Ask) Newcomers(i int) []int {
	return slices.DeleteFunc(a.Successors(i), func(n int) bool { return a.has(n) || !a.Fits(n) })
}

// Meant are the packages that a job means.
func (a *Ask) Meant(job int) []int {
	if !a.hasJob(job) {
		return nil
	}
	return slices.Clone(a.meant[job])
}

// set is a set of packages, by number.
type set [api.MaxPackages]bool

// has says whether one of some packages is in it.
func (s *set) has(l ...int) bool {
	return slices.ContainsFunc(l, func(n int) bool { return s[n] })
}

// set is the set of those numbers of a state that are packages.
func (a *Ask) set(state []int) *set {
	s := new(set)
	for _, n := range state {
		if a.at(n) != nil {
			s[n] = true
		}
	}
	return s
}

// installs says whether a state provides what an Install asks for.
func (a *Ask) installs(job int, s *set) bool { return s.has(a.meant[job]...) }

// erases says whether a state has nothing that an Erase names.
func (a *Ask) erases(job int, s *set) bool { return !s.has(a.meant[job]...) }

// upgrades says whether a state has a successor of each that an Upgrade names.
func (a *Ask) upgrades(job int, s *set) bool {
	return all(a.meant[job], func(i int) bool { return s.has(a.successors[i]...) })
}

// syncs says whether a state has a newcomer of each that a Sync names, and that has any.
func (a *Ask) syncs(job int, s *set) bool {
	return all(a.meant[job], func(i int) bool {
		l := a.Newcomers(i)
		return len(l) == 0 || s.has(l...)
	})
}

// Fulfils says whether a state fulfils a job.
func (a *Ask) Fulfils(job int, state []int) bool {
	if !a.hasJob(job) {
		return true
	}
	ways := [...]func(*Ask, int, *set) bool{
		api.Install: (*Ask).installs,
		api.Erase:   (*Ask).erases,
		api.Upgrade: (*Ask).upgrades,
		api.Sync:    (*Ask).syncs,
	}
	return ways[a.request.Jobs[job].Kind](a, job, a.set(state))
}
