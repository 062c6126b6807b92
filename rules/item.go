package rules

import (
	"slices"

	"chandlery/api"
	"chandlery/ask"
	"chandlery/norm"
)

// nobody is the number of no package: without it a literal is that of the whole state.
const nobody = -1

// maker makes the clauses of items, and the helpers that these need.
type maker struct {
	ask      *ask.Ask
	table    *norm.Table
	packages []api.Package // by number
	jobs     []api.Job
	failed   api.Errno // the first error of the table
}

// makerOf is that of what is asked for, over a table of its pool.
func makerOf(a *ask.Ask, t *norm.Table) (*maker, api.Errno) {
	k := &maker{ask: a, table: t, jobs: a.Request().Jobs}
	p := a.Pool()
	for n := range p.Count() {
		one, e := p.Package(n)
		if e != api.OK {
			return nil, e
		}
		k.packages = append(k.packages, one)
	}
	return k, api.OK
}

// ways are the functions that make the clauses of an item, by its Kind.
func (k *maker) ways() map[uint8]func(api.Item) [][]int {
	return map[uint8]func(api.Item) [][]int{
		api.ArchItem:  k.arch,
		api.NeedItem:  k.need,
		api.ClashItem: k.clash,
		api.OverItem:  k.over,
		api.TwinItem:  k.twin,
		api.KeepItem:  k.keep,
		api.JobItem:   k.job,
	}
}

// lit is the table's literal of a rich dependency, without a package.
func (k *maker) lit(r api.Rich, but int) int {
	lit, e := k.table.Lit(r, but)
	if k.failed == api.OK {
		k.failed = e
	}
	return lit
}

// arch: the package, whose architecture does not fit, is not there.
func (k *maker) arch(x api.Item) [][]int { return noneOf([]int{x.P}) }

// need: where the package is there, so is what it requires.
func (k *maker) need(x api.Item) [][]int {
	return [][]int{{away(x.P), k.lit(k.packages[x.P].Requires[x.Q], nobody)}}
}

// clash: where the package is there, what it conflicts with is not; it may provide that itself.
func (k *maker) clash(x api.Item) [][]int {
	return [][]int{{away(x.P), -k.lit(k.packages[x.P].Conflicts[x.Q], x.P)}}
}

// over: where the package is there, none of those that it obsoletes is; it may be named itself.
func (k *maker) over(x api.Item) [][]int {
	named := k.ask.Index().Named(k.packages[x.P].Obsoletes[x.Q])
	return noneOf(slices.DeleteFunc(named, func(n int) bool { return n == x.P }), away(x.P))
}

// twin: of two twins one is not there.
func (k *maker) twin(x api.Item) [][]int { return noneOf([]int{x.Q}, away(x.P)) }

// keep: the installed package, or one that may follow it, is there.
func (k *maker) keep(x api.Item) [][]int { return oneOf(k.ask.Successors(x.P)...) }
