package codec

import (
	"chandlery/api"
	"chandlery/wire"
)

// writer writes items one after another, till one does not fit.
type writer struct {
	to *wire.Writer
	e  api.Errno
}

// num writes a number.
func (w *writer) num(n int) {
	if w.e == api.OK { // asked, as a smaller item may fit behind one that does not
		w.e = w.to.Num(n)
	}
}

// text writes a text.
func (w *writer) text(s string) {
	if w.e == api.OK {
		w.e = w.to.Text(s)
	}
}

// writeList writes a list: its length, and each element as write does.
func writeList[T any](w *writer, list []T, write func(T)) {
	w.num(len(list))
	for _, element := range list {
		write(element)
	}
}

// evr writes an EVR.
func (w *writer) evr(e api.EVR) {
	w.num(e.Epoch)
	w.text(e.Ver)
	w.text(e.Rel)
}

// dep writes a plain dependency.
func (w *writer) dep(d api.Dep) {
	w.text(d.Name)
	w.num(int(d.Op))
	if d.Op != api.Any {
		w.evr(d.EVR)
	}
}

// rich writes a rich dependency.
func (w *writer) rich(r api.Rich) {
	w.num(int(r.Kind))
	if r.Kind == api.Atom {
		w.dep(r.Dep)
		return
	}
	writeList(w, r.Args, func(arg api.Rich) { w.rich(arg) })
}

// pack writes a package.
func (w *writer) pack(p api.Package) {
	depList := func(list []api.Dep) { writeList(w, list, func(d api.Dep) { w.dep(d) }) }
	richList := func(list []api.Rich) { writeList(w, list, func(r api.Rich) { w.rich(r) }) }
	w.text(p.Name)
	w.evr(p.EVR)
	w.num(int(p.Arch))
	w.text(p.Vendor)
	depList(p.Provides)
	richList(p.Requires)
	richList(p.Conflicts)
	depList(p.Obsoletes)
	richList(p.Recommends)
	richList(p.Supplements)
	richList(p.Suggests)
	richList(p.Enhances)
	writeList(w, p.Files, func(file string) { w.text(file) })
}

// data writes data.
func (w *writer) data(d Data) {
	packageList := func(list []api.Package) { writeList(w, list, func(p api.Package) { w.pack(p) }) }
	writeList(w, d.Repos, func(repo api.Repo) {
		w.num(repo.Priority)
		packageList(repo.Packages)
	})
	packageList(d.Installed)
}

// Encode are data's bytes.
func Encode(d Data) (string, api.Errno) {
	if e := Check(d); e != api.OK {
		return "", e
	}
	w := writer{to: wire.NewWriter()}
	w.data(d)
	if w.e != api.OK {
		return "", w.e
	}
	return w.to.Bytes(), api.OK
}
