package truth

import (
	"slices"

	"chandlery/api"
)

// unformed is the Kind of what is not well-formed; api has none of that number.
const unformed uint8 = 0

// part is a part of a well-formed rich dependency, over a pool. Its providers are found when it is made, as a state may ask about it for each of its packages.
type part struct {
	kind      uint8
	providers set // those that provide an Atom
	args      []part
}

// holds says whether a state satisfies the part.
func (p part) holds(state set) bool {
	return [...]func(part, set) bool{
		unformed:    part.never,
		api.Atom:    part.provided,
		api.And:     part.all,
		api.Or:      part.some,
		api.If:      part.onlyIf,
		api.Unless:  part.unless,
		api.With:    part.with,
		api.Without: part.without,
	}[p.kind](p, state)
}

// never: nothing satisfies what is not well-formed.
func (p part) never(state set) bool { return false }

// provided: one of the packages provides it.
func (p part) provided(state set) bool { return state.meets(p.providers) }

// all: the state satisfies all Args.
func (p part) all(state set) bool {
	return !slices.ContainsFunc(p.args, func(arg part) bool { return !arg.holds(state) })
}

// some: the state satisfies one of the Args.
func (p part) some(state set) bool {
	return slices.ContainsFunc(p.args, func(arg part) bool { return arg.holds(state) })
}

// onlyIf: the second Arg decides between the first and the third; where there is no third one nothing is asked for in its place.
func (p part) onlyIf(state set) bool {
	if p.args[1].holds(state) {
		return p.args[0].holds(state)
	}
	return len(p.args) == 2 || p.args[2].holds(state)
}

// unless: the second Arg decides between the third and the first; where there is no third one it may not hold.
func (p part) unless(state set) bool {
	if p.args[1].holds(state) {
		return len(p.args) > 2 && p.args[2].holds(state)
	}
	return p.args[0].holds(state)
}

// with: one of the packages alone satisfies all Args.
func (p part) with(state set) bool { return state.someAlone(p.all) }

// without: one of the packages alone satisfies the first Arg, and not the second, which is what Unless says of two.
func (p part) without(state set) bool { return state.someAlone(p.unless) }
