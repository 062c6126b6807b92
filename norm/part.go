package norm

import "chandlery/api"

// part is the literal of a part of a rich dependency that is valid at Needs.
func (d *draft) part(r api.Rich) int {
	return [...]func(*draft, api.Rich) int{
		api.Atom:    (*draft).single,
		api.And:     (*draft).and,
		api.Or:      (*draft).or,
		api.If:      (*draft).onlyIf,
		api.Unless:  (*draft).unless,
		api.With:    (*draft).single,
		api.Without: (*draft).single,
	}[r.Kind](d, r)
}

// args are the literals of the Args of a part.
func (d *draft) args(r api.Rich) []int {
	var l []int
	for _, arg := range r.Args {
		l = append(l, d.part(arg))
	}
	return l
}

// single: one of the packages alone satisfies it.
func (d *draft) single(r api.Rich) int { return d.one(d.table.alone(r)) }

// and: the state satisfies all Args.
func (d *draft) and(r api.Rich) int { return d.allOf(d.args(r)...) }

// or: the state satisfies one of the Args.
func (d *draft) or(r api.Rich) int { return d.anyOf(d.args(r)...) }

// onlyIf: the second Arg decides between the first and the third; where there is no third one nothing is asked for in its place.
func (d *draft) onlyIf(r api.Rich) int {
	l := d.args(r)
	if len(l) == 2 {
		return d.anyOf(l[0], -l[1])
	}
	return d.choice(l[1], l[0], l[2])
}

// unless: the second Arg decides between the third and the first; where there is no third one it may not hold.
func (d *draft) unless(r api.Rich) int {
	l := d.args(r)
	if len(l) == 2 {
		return d.allOf(l[0], -l[1])
	}
	return d.choice(l[1], l[2], l[0])
}

// alone are the packages each of which alone satisfies an Atom, or a part that stands within With and Without, or is one of these: there is neither an If nor an Unless.
func (t *Table) alone(r api.Rich) set {
	if r.Kind == api.Atom {
		return setOf(t.index.Providers(r.Dep)...)
	}
	s := t.alone(r.Args[0])
	for _, arg := range r.Args[1:] {
		other := t.alone(arg)
		switch r.Kind {
		case api.Or:
			s = s.plus(other)
		case api.Without:
			s = s.minus(other)
		default: // And and With, which mean the same of a single package
			s = s.both(other)
		}
	}
	return s
}
