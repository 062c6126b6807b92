package shape_test

import (
	"slices"
	"strings"
	"unsafe"

	"chandlery/api"
	"chandlery/dep"
	"chandlery/shape"
)

// positions are all that there are.
var positions = []uint8{shape.Needs, shape.Clash, shape.Weak}

// kinds are the Kinds that have Args.
var kinds = []uint8{api.And, api.Or, api.If, api.Unless, api.With, api.Without}

// longest is a name, a version and a release of the greatest length.
var longest = strings.Repeat("x", api.MaxName)

// atom is an Atom of any version.
func atom(name string) api.Rich { return api.Rich{Kind: api.Atom, Dep: api.Dep{Name: name}} }

// ranged is an Atom of a range of versions.
func ranged(name string, op uint8, e api.EVR) api.Rich {
	return api.Rich{Kind: api.Atom, Dep: api.Dep{Name: name, Op: op, EVR: e}}
}

// of is a part with these Args.
func of(kind uint8, args ...api.Rich) api.Rich { return api.Rich{Kind: kind, Args: args} }

// both is a part with a Dep and Args.
func both(kind uint8, name string, args ...api.Rich) api.Rich {
	return api.Rich{Kind: kind, Dep: api.Dep{Name: name}, Args: args}
}

// atoms are so many Atoms, of unlike names.
func atoms(n int) []api.Rich {
	var l []api.Rich
	for i := range n {
		l = append(l, atom("p"+string(rune('a'+i%26))+string(rune('0'+i/26))))
	}
	return l
}

// nested is a part, an Arg of an Arg of .., of so many parts of that Kind, each with one Arg more; first: it is the first Arg of each.
func nested(r api.Rich, kind uint8, depth int, first bool) api.Rich {
	for range depth {
		args := []api.Rich{atom("s"), r}
		if first {
			slices.Reverse(args)
		}
		r = of(kind, args...)
	}
	return r
}

// copied is a copy that shares no lists, found by other means than the program's.
func copied(r api.Rich) api.Rich {
	r.Args = slices.Clone(r.Args)
	for i := range r.Args {
		r.Args[i] = copied(r.Args[i])
	}
	return r
}

// sameBy says whether two are the same, found by other means than the program's: their parts stand in lists, with their numbers of Args.
func sameBy(a, b api.Rich) bool {
	l, m := partsBy(a), partsBy(b)
	return slices.EqualFunc(l, m, func(p, q part) bool {
		return p.r.Kind == q.r.Kind && p.r.Dep == q.r.Dep && len(p.r.Args) == len(q.r.Args)
	})
}

// part is a part, and the Kinds of the parts that it is in, the outermost first.
type part struct {
	r    api.Rich
	path []uint8
}

// partsBy are all parts, as they are read from left to right, found by other means than the program's: those that are to be gone over lie on a heap, the next one on top.
func partsBy(r api.Rich) []part {
	var l []part
	heap := []part{{r: r}}
	for len(heap) > 0 {
		p := heap[len(heap)-1]
		heap = heap[:len(heap)-1]
		l = append(l, p)
		for _, arg := range slices.Backward(p.r.Args) {
			heap = append(heap, part{arg, append(slices.Clone(p.path), p.r.Kind)})
		}
	}
	return l
}

// depthBy is the depth of what has these parts, found by other means than the program's: the greatest number of parts that are no Atoms, on a path that leads through no Atom.
func depthBy(parts []part) int {
	depth := 0
	for _, p := range parts {
		switch {
		case slices.Contains(p.path, api.Atom):
		case p.r.Kind == api.Atom:
			depth = max(depth, len(p.path))
		default:
			depth = max(depth, len(p.path)+1)
		}
	}
	return depth
}

// formedBy says whether a part is one of those of the chapter's table, found by other means than the program's.
func formedBy(p part, where uint8) bool {
	within := slices.Contains(p.path, api.With) || slices.Contains(p.path, api.Without)
	n, plain := len(p.r.Args), p.r.Dep == api.Dep{}
	switch p.r.Kind {
	case api.Atom:
		return n == 0 && dep.May(p.r.Dep)
	case api.And, api.Or, api.With:
		return plain && n >= 2
	case api.If:
		return plain && (n == 2 || n == 3) && !within && where == shape.Needs
	case api.Unless:
		return plain && (n == 2 || n == 3) && !within && where != shape.Weak
	case api.Without:
		return plain && n == 2
	}
	return false
}

// mayBy is what May should answer of what has these parts, found by other means than the program's.
func mayBy(parts []part, where uint8) api.Errno {
	switch {
	case where < 1, where > 3:
		return api.ErrArg
	case len(parts) > 24:
		return api.ErrTooLarge
	case depthBy(parts) > 8:
		return api.ErrDeep
	}
	for _, p := range parts {
		if !formedBy(p, where) {
			return api.ErrForm
		}
	}
	return api.OK
}

// dice are numbers that follow one another by a rule, the same each time.
type dice uint64

// roll is a number from 0 to n-1.
func (d *dice) roll(n int) int {
	*d = *d*6364136223846793005 + 1442695040888963407
	return int(uint64(*d)>>33) % n
}

// grow is a rich dependency of at least so many parts, if the depth allows that many, of some Kinds; slim: with as few Args as may be, so that it is deep.
func (d *dice) grow(parts, depth int, some []uint8, slim bool) api.Rich {
	if parts <= 1 || depth == 0 {
		leaves := []api.Rich{atom("a"), atom("/b"), atom("Or"), ranged("c", api.Less, api.EVR{Ver: "1"}), ranged("d", api.Greater|api.Equal, api.EVR{Epoch: 1, Ver: "2", Rel: "3"})}
		return leaves[d.roll(len(leaves))]
	}
	kind := some[d.roll(len(some))]
	n, most := 2, 4
	switch {
	case slim:
		most = 2
	case kind == api.If || kind == api.Unless:
		n += d.roll(2)
	case kind != api.Without:
		n += d.roll(4)
	}
	args := make([]api.Rich, n)
	big := d.roll(n)
	for i := range args {
		share := d.roll(most)
		if i == big {
			share = parts - n
		}
		args[i] = d.grow(share, depth-1, some, slim)
	}
	return of(kind, args...)
}

// whole is a rich dependency that a rule makes, of one of several sets of Kinds, about as deep, or of about as many parts, as may be.
func (d *dice) whole() api.Rich {
	sets := [][]uint8{
		kinds,
		{api.And, api.Or, api.With, api.Without},
		{api.And, api.Or, api.Unless},
		{api.And, api.Or, api.If, api.Unless},
		{api.If, api.Unless, api.With},
	}
	some := sets[d.roll(len(sets))]
	if d.roll(3) == 0 {
		return d.grow(14+d.roll(12), api.MaxNest-1+d.roll(4), some, true)
	}
	return d.grow(4+d.roll(26), 1+d.roll(api.MaxNest+2), some, false)
}

// spoil is a copy with something changed somewhere.
func (d *dice) spoil(r api.Rich) api.Rich {
	r.Args = slices.Clone(r.Args)
	if len(r.Args) > 0 && d.roll(3) > 0 {
		i := d.roll(len(r.Args))
		r.Args[i] = d.spoil(r.Args[i])
		return r
	}
	switch d.roll(5) {
	case 0:
		r.Kind = uint8(d.roll(9))
	case 1:
		r.Dep.Name = []string{"", "a", "b", "if"}[d.roll(4)]
	case 2:
		r.Dep.Op = uint8(d.roll(8))
	case 3:
		r.Args = append(r.Args, atom("a"))
	case 4:
		r.Args = r.Args[:max(len(r.Args)-1, 0)]
	}
	return r
}

// eachArgs calls f with all lists of up to so many of the parts.
func eachArgs(parts []api.Rich, most int, f func([]api.Rich)) {
	f(nil)
	if most == 0 {
		return
	}
	for _, p := range parts {
		eachArgs(parts, most-1, func(l []api.Rich) { f(append([]api.Rich{p}, l...)) })
	}
}

// small calls f with all that are made of a few parts, of which some are invalid.
func small(f func(api.Rich)) {
	leaves := []api.Rich{atom("a"), ranged("b", api.Less, api.EVR{Ver: "1"}), atom("if"), {}, both(api.Atom, "a", atoms(1)...)}
	inner := []api.Rich{atom("a"), of(api.And, atom("a")), both(api.Or, "a", atoms(2)...), both(api.Atom, "a", of(api.If, atoms(2)...))}
	for _, kind := range kinds {
		inner = append(inner, of(kind, atom("a"), atom("b")), of(kind, atom("a"), atom("b"), atom("c")))
	}
	for kind := range uint8(9) {
		for _, d := range []api.Dep{{}, {Name: "a"}} {
			call := func(l []api.Rich) { f(api.Rich{Kind: kind, Dep: d, Args: l}) }
			eachArgs(leaves, 4, call)
			eachArgs(inner, 3, call)
		}
	}
}

// grown calls f with many that are grown by a rule, and with some of them spoilt.
func grown(n int, f func(api.Rich)) {
	var d dice
	for range n {
		r := d.whole()
		f(r)
		if d.roll(3) == 0 {
			f(d.spoil(r))
		}
	}
}

// eachAny calls f with small ones, and with grown ones.
func eachAny(n int, f func(api.Rich)) {
	small(f)
	grown(n, f)
}

// altered are rich dependencies that differ from r in one part alone.
func altered(r api.Rich) []api.Rich {
	var l []api.Rich
	add := func(change func(*api.Rich)) {
		other := copied(r)
		change(&other)
		l = append(l, other)
	}
	for kind := range uint8(9) {
		if kind != r.Kind {
			add(func(o *api.Rich) { o.Kind = kind })
		}
	}
	add(func(o *api.Rich) { o.Dep.Name += "o" })
	add(func(o *api.Rich) { o.Dep.Op ^= api.Equal })
	add(func(o *api.Rich) { o.Dep.EVR.Epoch++ })
	add(func(o *api.Rich) { o.Dep.EVR.Ver += "0" })
	add(func(o *api.Rich) { o.Dep.EVR.Rel += "0" })
	add(func(o *api.Rich) { o.Args = append(o.Args, atom("o")) })
	add(func(o *api.Rich) { o.Args = append([]api.Rich{atom("o")}, o.Args...) })
	add(func(o *api.Rich) { o.Args = append(o.Args, api.Rich{}) })
	if len(r.Args) > 0 {
		add(func(o *api.Rich) { o.Args = o.Args[1:] })
		add(func(o *api.Rich) { o.Args = o.Args[:len(o.Args)-1] })
		add(func(o *api.Rich) { o.Args = nil })
	}
	for i, arg := range r.Args {
		for _, other := range altered(arg) {
			add(func(o *api.Rich) { o.Args[i] = other })
		}
	}
	return l
}

// textsOf are all texts in the Deps of a rich dependency.
func textsOf(r api.Rich) []string {
	l := textsIn(r.Dep)
	for _, arg := range r.Args {
		l = append(l, textsOf(arg)...)
	}
	return l
}

// textsIn are all texts in a Dep.
func textsIn(d api.Dep) []string { return []string{d.Name, d.EVR.Ver, d.EVR.Rel} }

// shared says whether two texts have bytes in common memory.
func shared(a, b string) bool {
	if a == "" || b == "" {
		return false
	}
	p, q := uintptr(unsafe.Pointer(unsafe.StringData(a))), uintptr(unsafe.Pointer(unsafe.StringData(b)))
	return p < q+uintptr(len(b)) && q < p+uintptr(len(a))
}
