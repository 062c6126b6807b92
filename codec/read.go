package codec

import (
	"chandlery/api"
	"chandlery/pkg"
	"chandlery/wire"
)

// greatestOp is the greatest number that is read for an Op, whether there is such an Op or not.
const greatestOp = int(api.Greater | api.Equal)

// readList reads a list of least to most elements, each as read does; it is left at an error.
func readList[T any](r *wire.Reader, least, most int, read func() T) []T {
	var list []T
	for range r.Num(least, most) {
		list = append(list, read())
		if _, e := r.Wrong(); e != api.OK {
			break
		}
	}
	return list
}

// readText reads a name, a version, a release, or a vendor.
func readText(r *wire.Reader) string { return r.Text(api.MaxName) }

// readEVR reads an EVR.
func readEVR(r *wire.Reader) api.EVR {
	return api.EVR{Epoch: r.Num(0, api.MaxEpoch), Ver: readText(r), Rel: readText(r)}
}

// readDep reads a plain dependency.
func readDep(r *wire.Reader) api.Dep {
	d := api.Dep{Name: readText(r), Op: uint8(r.Num(0, greatestOp))}
	if d.Op != api.Any {
		d.EVR = readEVR(r)
	}
	return d
}

// readRich reads a part of a rich dependency, within so many others.
func readRich(r *wire.Reader, nest int) api.Rich {
	start := r.At()
	part := api.Rich{Kind: uint8(r.Num(int(api.Atom), int(api.Without)))}
	if part.Kind == api.Atom {
		part.Dep = readDep(r)
		return part
	}
	if nest == api.MaxNest {
		r.Fail(start, api.ErrDeep) // if the Kind itself could not be read, that remains the error
	}
	part.Args = readList(r, 2, api.MaxNodes, func() api.Rich { return readRich(r, nest+1) })
	return part
}

// readPackage reads a package.
func readPackage(r *wire.Reader) api.Package {
	start := r.At()
	depList := func() []api.Dep {
		return readList(r, 0, api.MaxDeps, func() api.Dep { return readDep(r) })
	}
	richList := func() []api.Rich {
		return readList(r, 0, api.MaxDeps, func() api.Rich { return readRich(r, 0) })
	}
	p := api.Package{ // read in the order of this text
		Name:        readText(r),
		EVR:         readEVR(r),
		Arch:        uint8(r.Num(int(api.NoArch), int(api.AArch64))),
		Vendor:      readText(r),
		Provides:    depList(),
		Requires:    richList(),
		Conflicts:   richList(),
		Obsoletes:   depList(),
		Recommends:  richList(),
		Supplements: richList(),
		Suggests:    richList(),
		Enhances:    richList(),
		Files:       readList(r, 0, api.MaxFiles, func() string { return readText(r) }),
	}
	if !pkg.May(p) {
		r.Fail(start, api.ErrForm) // if it could not be read completely, that remains the error
	}
	return p
}

// readData reads data.
func readData(r *wire.Reader) Data {
	left := api.MaxPackages
	packageList := func() []api.Package {
		list := readList(r, 0, left, func() api.Package { return readPackage(r) })
		left -= len(list)
		return list
	}
	repo := func() api.Repo {
		return api.Repo{Priority: r.Num(0, api.MaxPriority), Packages: packageList()}
	}
	return Data{Repos: readList(r, 0, api.MaxRepos, repo), Installed: packageList()}
}

// Decode are the data of bytes.
func Decode(s string) (d Data, place int, e api.Errno) {
	r, e := wire.NewReader(s)
	if e != api.OK {
		return Data{}, 0, e
	}
	d = readData(r)
	r.End()
	if place, e = r.Wrong(); e != api.OK {
		return Data{}, place, e
	}
	return d, 0, api.OK
}
