package model

import (
	"slices"

	"chandlery/api"
)

// set is a state: which packages it has, and the numbers of these, each once, as a state may be handed in that is much longer.
type set struct {
	has  [api.MaxPackages]bool
	list []int
}

// meets says whether one of some packages is in it.
func (s *set) meets(l []int) bool {
	return slices.ContainsFunc(l, func(n int) bool { return s.has[n] })
}

// has says whether there is a package of that number.
func (m *Model) has(n int) bool { return m != nil && n >= 0 && n < len(m.packages) }

// set is the set of those numbers of a state that are packages.
func (m *Model) set(state []int) *set {
	s := new(set)
	for _, n := range state {
		if m.has(n) && !s.has[n] {
			s.has[n] = true
			s.list = append(s.list, n)
		}
	}
	return s
}

// means says whether a state satisfies an item that exists.
func (m *Model) means(s *set, x api.Item) bool {
	return [...]func(*Model, *set, api.Item) bool{
		api.ArchItem:  (*Model).arch,
		api.NeedItem:  (*Model).need,
		api.ClashItem: (*Model).clash,
		api.OverItem:  (*Model).over,
		api.TwinItem:  (*Model).twin,
		api.KeepItem:  (*Model).keep,
		api.JobItem:   (*Model).job,
	}[x.Kind](m, s, x)
}

// arch: the package, whose architecture does not fit, is not there.
func (m *Model) arch(s *set, x api.Item) bool { return !s.has[x.P] }

// need: where the package is there, so is what it requires.
func (m *Model) need(s *set, x api.Item) bool {
	return !s.has[x.P] || m.truth.Satisfies(s.list, m.packages[x.P].Requires[x.Q])
}

// clash: where the package is there, what it conflicts with is not; it may provide that itself.
func (m *Model) clash(s *set, x api.Item) bool {
	return !s.has[x.P] || !m.truth.Without(s.list, x.P, m.packages[x.P].Conflicts[x.Q])
}

// over: where the package is there, none of those that it obsoletes is; it may be named itself.
func (m *Model) over(s *set, x api.Item) bool {
	if !s.has[x.P] {
		return true
	}
	named := m.ask.Index().Named(m.packages[x.P].Obsoletes[x.Q])
	return !s.meets(slices.DeleteFunc(named, func(n int) bool { return n == x.P }))
}

// twin: of two twins one is not there.
func (m *Model) twin(s *set, x api.Item) bool { return !s.has[x.P] || !s.has[x.Q] }

// keep: the installed package, or one that may follow it, is there.
func (m *Model) keep(s *set, x api.Item) bool { return s.meets(m.ask.Successors(x.P)) }

// job: what the job asks for is done.
func (m *Model) job(s *set, x api.Item) bool { return m.ask.Fulfils(x.P, s.list) }
