package rich_test

import (
	"slices"
	"unsafe"

	"chandlery/api"
)

// dice are numbers that follow one another by a rule, the same each time.
type dice uint64

// roll is a number from 0 to n-1.
func (d *dice) roll(n int) int {
	*d = *d*6364136223846793005 + 1442695040888963407
	return int(uint64(*d)>>33) % n
}

// grow is a rich dependency of at least so many parts, if the depth allows that many.
func (d *dice) grow(parts, depth int) api.Rich {
	if parts <= 1 || depth == 0 {
		leaves := []api.Rich{atom("a"), atom("/b"), atom("Or"), ranged("c", api.Less, api.EVR{Ver: "1"}), ranged("d", api.Greater|api.Equal, api.EVR{Epoch: 1, Ver: "2", Rel: "3"})}
		return leaves[d.roll(len(leaves))]
	}
	kind := kinds[d.roll(len(kinds))]
	n := 2
	switch kind {
	case api.If, api.Unless:
		n += d.roll(2)
	case api.And, api.Or, api.With:
		n += d.roll(4)
	}
	args := make([]api.Rich, n)
	big := d.roll(n)
	for i := range args {
		share := d.roll(4)
		if i == big {
			share = parts - n
		}
		args[i] = d.grow(share, depth-1)
	}
	return of(kind, args...)
}

// spoil is a copy with something changed somewhere.
func (d *dice) spoil(r api.Rich) api.Rich {
	r.Args = slices.Clone(r.Args)
	if len(r.Args) > 0 && d.roll(3) > 0 {
		i := d.roll(len(r.Args))
		r.Args[i] = d.spoil(r.Args[i])
		return r
	}
	switch d.roll(5) {
	case 0:
		r.Kind = uint8(d.roll(9))
	case 1:
		r.Dep.Name = []string{"", "a", "b", "if"}[d.roll(4)]
	case 2:
		r.Dep.Op = uint8(d.roll(8))
	case 3:
		r.Args = append(r.Args, atom("a"))
	case 4:
		r.Args = r.Args[:max(len(r.Args)-1, 0)]
	}
	return r
}

// shared says whether two texts have bytes in common memory.
func shared(a, b string) bool {
	if a == "" || b == "" {
		return false
	}
	p, q := uintptr(unsafe.Pointer(unsafe.StringData(a))), uintptr(unsafe.Pointer(unsafe.StringData(b)))
	return p < q+uintptr(len(b)) && q < p+uintptr(len(a))
}
