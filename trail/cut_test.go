package trail

import (
	"slices"
	"testing"

	"chandlery/api"
)

// Ways: a list that was cut has no room, so that what followed the cut stays as it was, whatever is put on the trail later.
func TestCut(t *testing.T) {
	for level := range 3 {
		x, e := New(8)
		if e != api.OK {
			t.Fatal(e)
		}
		for _, lit := range []int{7, -2, 6} {
			if x.Decide(lit) != api.OK || x.Assign(lit-3, 0) != api.OK {
				t.Fatal(lit)
			}
		}
		lits, starts := x.lits, x.starts
		if e := x.Back(level); e != api.OK {
			t.Fatal(e)
		}
		if cap(x.lits) != len(x.lits) || cap(x.starts) != len(x.starts) {
			t.Errorf("level %d: room behind the cut", level)
		}
		for _, lit := range []int{-1, -3, 8, -6} {
			if x.Decide(lit) != api.OK {
				t.Fatal(lit)
			}
		}
		if !slices.Equal(lits, []int{7, 4, -2, -5, 6, 3}) || !slices.Equal(starts, []int{0, 2, 4}) {
			t.Errorf("level %d: overwritten: %v, %v", level, lits, starts)
		}
	}
}
