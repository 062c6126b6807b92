package ask

import (
	"slices"
	"strings"

	"chandlery/api"
	"chandlery/arch"
	"chandlery/dep"
	"chandlery/pool"
)

// mayJob says whether a job is valid.
func mayJob(job api.Job) bool {
	return job.Kind >= api.Install && job.Kind <= api.Sync && dep.May(job.Dep)
}

// mayEdit says whether an edit of so many jobs and installed packages is valid.
func mayEdit(x api.Edit, jobs, installed int) bool {
	switch x.Kind {
	case api.DropJob:
		return x.N >= 0 && x.N < jobs
	case api.AllowErase, api.AllowDown, api.AllowArch:
		return x.N >= 0 && x.N < installed
	}
	return false
}

// all says whether a condition holds of each element.
func all[T any](l []T, condition func(T) bool) bool {
	return !slices.ContainsFunc(l, func(one T) bool { return !condition(one) })
}

// check is what is wrong with a request over a pool.
func check(p *pool.Pool, r api.Request) api.Errno {
	switch {
	case p == nil:
		return api.ErrNil
	case !arch.Machine(r.Arch), r.Budget < 0, r.Budget > api.MaxBudget:
		return api.ErrArg
	case len(r.Jobs) > api.MaxJobs, len(r.Edits) > api.MaxEdits:
		return api.ErrTooLarge
	case !all(r.Jobs, mayJob):
		return api.ErrForm
	case !all(r.Edits, func(x api.Edit) bool { return mayEdit(x, len(r.Jobs), p.Installed()) }):
		return api.ErrNone
	}
	return api.OK
}

// copied is a copy of a request that shares no memory with it.
func copied(r api.Request) api.Request {
	r.Jobs, r.Edits = slices.Clone(r.Jobs), slices.Clone(r.Edits)
	for j := range r.Jobs {
		d := &r.Jobs[j].Dep
		d.Name = strings.Clone(d.Name)
		d.EVR.Ver, d.EVR.Rel = strings.Clone(d.EVR.Ver), strings.Clone(d.EVR.Rel)
	}
	return r
}

// hasJob says whether there is a job of that index.
func (a *Ask) hasJob(job int) bool {
	return a != nil && job >= 0 && job < len(a.request.Jobs)
}

// edited says whether there is an edit of that Kind for that number.
func (a *Ask) edited(kind uint8, n int) bool {
	return slices.ContainsFunc(a.request.Edits, func(x api.Edit) bool { return x.Kind == kind && x.N == n })
}

// Dropped says whether a job is dropped.
func (a *Ask) Dropped(job int) bool { return a.hasJob(job) && a.edited(api.DropJob, job) }

// jobs says whether a condition holds of a job of that Kind that is not dropped.
func (a *Ask) jobs(kind uint8, condition func(job int) bool) bool {
	for j, job := range a.request.Jobs {
		if job.Kind == kind && condition(j) && !a.Dropped(j) {
			return true
		}
	}
	return false
}

// named says whether a package is named by a job of that Kind that is not dropped.
func (a *Ask) named(kind uint8, n int) bool {
	return a.jobs(kind, func(job int) bool { return slices.Contains(a.meant[job], n) })
}

// down says whether an installed package may be downgraded.
func (a *Ask) down(i int) bool { return a.edited(api.AllowDown, i) || a.named(api.Sync, i) }

// has says whether there is an installed package of that number.
func (a *Ask) has(i int) bool { return a != nil && i >= 0 && i < len(a.successors) }

// Goes says whether an installed package may go.
func (a *Ask) Goes(i int) bool {
	return a.has(i) && (a.edited(api.AllowErase, i) || a.named(api.Erase, i))
}
