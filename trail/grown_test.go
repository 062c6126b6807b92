package trail_test

import (
	"math"
	"slices"
	"strconv"
	"testing"

	"chandlery/api"
	"chandlery/trail"
)

// step is a call that changes a trail, or is refused.
type step struct {
	kind uint8
	n    int // a literal, or a level
	more int // a reason
}

// Kinds of steps.
const (
	deciding uint8 = iota
	assigning
	backing
)

// decide is a step of Decide.
func decide(lit int) step { return step{deciding, lit, 0} }

// assign is a step of Assign.
func assign(lit, reason int) step { return step{assigning, lit, reason} }

// back is a step of Back.
func back(level int) step { return step{backing, level, 0} }

// String tells a step.
func (s step) String() string {
	switch s.kind {
	case deciding:
		return "Decide(" + strconv.Itoa(s.n) + ")"
	case assigning:
		return "Assign(" + strconv.Itoa(s.n) + ", " + strconv.Itoa(s.more) + ")"
	}
	return "Back(" + strconv.Itoa(s.n) + ")"
}

// on does the step on a trail.
func (s step) on(x *trail.Trail) api.Errno {
	switch s.kind {
	case deciding:
		return x.Decide(s.n)
	case assigning:
		return x.Assign(s.n, s.more)
	}
	return x.Back(s.n)
}

// entry is a literal, and what belongs to it.
type entry struct{ lit, level, reason int }

// diary is a trail in the words of the chapter: a sequence of literals, each with its level and its reason, which is searched from end to end.
type diary struct {
	vars, level int
	entries     []entry
}

// copy is one of its own.
func (d diary) copy() diary {
	d.entries = slices.Clone(d.entries)
	return d
}

// find is the place of the literal of a variable; -1: it is not assigned.
func (d diary) find(v int) int {
	return slices.IndexFunc(d.entries, func(x entry) bool { return v >= 0 && (x.lit == v+1 || x.lit == -(v+1)) })
}

// literal says whether that is a literal of one of the variables.
func (d diary) literal(lit int) bool {
	for v := range d.vars {
		if lit == v+1 || lit == -(v+1) {
			return true
		}
	}
	return false
}

// taken says whether the variable of a literal is assigned.
func (d diary) taken(lit int) bool {
	return slices.ContainsFunc(d.entries, func(x entry) bool { return x.lit == lit || x.lit == -lit })
}

// do does a step, or changes nothing and tells why, by the chapter's table.
func (d *diary) do(s step) api.Errno {
	switch s.kind {
	case backing:
		if s.n < 0 || s.n > d.level {
			return api.ErrArg
		}
		d.level = s.n
		d.entries = slices.DeleteFunc(slices.Clone(d.entries), func(x entry) bool { return x.level > s.n })
		return api.OK
	case assigning:
		if !d.literal(s.n) || s.more < 0 {
			return api.ErrArg
		}
		if d.taken(s.n) {
			return api.ErrState
		}
		d.entries = append(d.entries, entry{s.n, d.level, s.more})
		return api.OK
	}
	if !d.literal(s.n) {
		return api.ErrArg
	}
	if d.taken(s.n) {
		return api.ErrState
	}
	d.level++
	d.entries = append(d.entries, entry{s.n, d.level, -1})
	return api.OK
}

// Value is a literal's, by the words of the chapter.
func (d diary) Value(lit int) int {
	for _, x := range d.entries {
		switch lit {
		case x.lit:
			return 1
		case -x.lit:
			return -1
		}
	}
	return 0
}

// Level is the highest level.
func (d diary) Level() int { return d.level }

// LevelOf is a variable's level.
func (d diary) LevelOf(v int) int {
	if i := d.find(v); i >= 0 {
		return d.entries[i].level
	}
	return -1
}

// Reason is a variable's reason.
func (d diary) Reason(v int) int {
	if i := d.find(v); i >= 0 {
		return d.entries[i].reason
	}
	return -1
}

// Vars is how many variables there are.
func (d diary) Vars() int { return d.vars }

// Len is how many literals there are.
func (d diary) Len() int { return len(d.entries) }

// At is a literal.
func (d diary) At(i int) int {
	if i >= 0 && i < len(d.entries) {
		return d.entries[i].lit
	}
	return 0
}

// teller tells what a trail does.
type teller interface {
	Value(lit int) int
	Level() int
	LevelOf(v int) int
	Reason(v int) int
	Vars() int
	Len() int
	At(i int) int
}

// numbers are those about the ones from -n to n, and the outermost ones.
func numbers(n int) []int {
	l := []int{math.MinInt, math.MinInt + 1, math.MinInt32, math.MaxInt32, math.MaxInt - 1, math.MaxInt}
	for i := -n - 2; i <= n+2; i++ {
		l = append(l, i)
	}
	return l
}

// picture is all that a trail of so many variables tells, of what there is and of what there is not.
func picture(x teller, vars int) []int {
	l := []int{x.Vars(), x.Level(), x.Len()}
	for _, n := range numbers(vars) {
		l = append(l, x.Value(n), x.LevelOf(n), x.Reason(n), x.At(n))
	}
	return l
}

// wantLike asks for a trail that tells what a diary does.
func wantLike(t *testing.T, what any, x *trail.Trail, d diary) {
	t.Helper()
	if !slices.Equal(picture(x, d.vars), picture(d, d.vars)) {
		t.Fatalf("%v: other than %+v:\n%v, want\n%v", what, d, picture(x, d.vars), picture(d, d.vars))
	}
}

// wantSteps does steps on a trail and a diary, and asks for the same after each of them.
func wantSteps(t *testing.T, x *trail.Trail, d *diary, steps ...step) {
	t.Helper()
	for i, s := range steps {
		if got, want := s.on(x), d.do(s); got != want {
			t.Fatalf("%v: %d, want %d", steps[:i+1], got, want)
		}
		wantLike(t, steps[:i+1], x, *d)
	}
}

// made is an empty trail, and a diary of it.
func made(t *testing.T, vars int) (*trail.Trail, diary) {
	t.Helper()
	x, e := trail.New(vars)
	if x == nil || e != api.OK {
		t.Fatalf("New(%d): %v, %d", vars, x, e)
	}
	return x, diary{vars: vars}
}

// dice are numbers that follow one another by a rule, the same each time.
type dice uint64

// roll is a number from 0 to n-1.
func (d *dice) roll(n int) int {
	*d = *d*6364136223846793005 + 1442695040888963407
	return int(uint64(*d)>>33) % n
}

// literal is one of so many variables, or now and then something else.
func (d *dice) literal(vars int) int {
	if d.roll(12) == 0 || vars == 0 {
		l := []int{0, vars + 1, -vars - 1, math.MinInt, math.MaxInt}
		return l[d.roll(len(l))]
	}
	return (1 + d.roll(vars)) * (1 - 2*d.roll(2))
}

// reason is one, seldom one below 0.
func (d *dice) reason() int {
	if d.roll(12) == 0 {
		return -1 - d.roll(2)
	}
	return d.roll(4) * d.roll(1000)
}

// step is a step on a trail of so many variables, at that level; there are trails that grow, and ones that fall back often.
func (d *dice) step(vars, level, falls int) step {
	switch n := d.roll(10 + falls); {
	case n < 4:
		return decide(d.literal(vars))
	case n < 10:
		return assign(d.literal(vars), d.reason())
	case d.roll(12) == 0:
		return back([]int{-1, level + 1, math.MinInt, math.MaxInt}[d.roll(4)])
	case d.roll(3) > 0:
		return back(max(level-d.roll(3), 0))
	}
	return back(d.roll(level + 1))
}
