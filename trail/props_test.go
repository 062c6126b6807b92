package trail_test

import (
	"math"
	"slices"
	"testing"

	"chandlery/api"
	"chandlery/trail"
)

// walk does many steps on trails of some sizes, and calls seen with each trail behind each step.
func walk(t *testing.T, seed dice, seen func(x *trail.Trail, s step, e api.Errno)) {
	t.Helper()
	for _, vars := range []int{0, 1, 2, 3, 5, 8, 20, 60} {
		for falls := range 5 {
			x, _ := made(t, vars)
			for range 1500 {
				s := seed.step(vars, x.Level(), falls)
				seen(x, s, s.on(x))
			}
		}
	}
}

// P19.1, P19.2: after any steps a trail tells what the words of the chapter say.
func TestWords(t *testing.T) {
	d := dice(1)
	for _, vars := range []int{0, 1, 2, 3, 5, 8, 20} {
		for falls := range 5 {
			x, want := made(t, vars)
			for range 1500 {
				s := d.step(vars, want.level, falls)
				before := want.copy()
				if got, e := s.on(x), want.do(s); got != e {
					t.Fatalf("%+v: %v: %d, want %d", before, s, got, e)
				}
				wantLike(t, s, x, want)
			}
		}
	}
}

// P19.1, P19.2: all sequences of a few steps on two variables; each goes on with a copy of what was there, which itself stays as it is.
func TestAllSequences(t *testing.T) {
	all := []step{
		decide(1), decide(-1), decide(2), decide(-2), decide(0), decide(3), decide(-3),
		assign(1, 0), assign(-1, 6), assign(2, 3), assign(-2, 0), assign(2, -1), assign(0, 1), assign(-3, 1),
		back(-1), back(0), back(1), back(2),
	}
	var from func(x *trail.Trail, d diary, left int)
	from = func(x *trail.Trail, d diary, left int) {
		if left == 0 {
			return
		}
		before := picture(x, 2)
		for _, s := range all {
			y, c := x.Copy(), d.copy()
			wantSteps(t, y, &c, s)
			from(y, c, left-1)
			if !slices.Equal(picture(x, 2), before) {
				t.Fatalf("%+v: changed by %v on a copy", d, s)
			}
		}
	}
	x, d := made(t, 2)
	from(x, d, 4)
}

// P19.2: of several trails, some of them copies of others, each goes its own way.
func TestCopiesGrown(t *testing.T) {
	const most = 4
	d := dice(2)
	for n := range 120 {
		vars, falls := 4+n%3*4, 1+n%4
		x, want := made(t, vars)
		trails, diaries := []*trail.Trail{x}, []diary{want}
		for range 120 {
			n := d.roll(len(trails))
			switch {
			case d.roll(8) > 0:
				wantSteps(t, trails[n], &diaries[n], d.step(vars, diaries[n].level, falls))
			case len(trails) < most:
				trails, diaries = append(trails, trails[n].Copy()), append(diaries, diaries[n].copy())
			default:
				m := d.roll(most)
				trails[m], diaries[m] = trails[n].Copy(), diaries[n].copy()
			}
			for i := range trails {
				wantLike(t, i, trails[i], diaries[i])
			}
		}
	}
}

// P19.3: no variable occurs twice; the Value of a literal is the negative of that of its complement; as many values are not 0 as there are literals, and all literals are true.
func TestEachOnce(t *testing.T) {
	walk(t, 3, func(x *trail.Trail, s step, _ api.Errno) {
		places := map[int]int{}
		for i := range x.Len() {
			v := max(x.At(i), -x.At(i)) - 1
			if v < 0 || v >= x.Vars() || places[v] != 0 {
				t.Fatalf("%v: the literal %d at %d", s, x.At(i), i)
			}
			places[v]++
			if x.Value(x.At(i)) != 1 {
				t.Fatalf("%v: Value(%d) at %d: %d", s, x.At(i), i, x.Value(x.At(i)))
			}
		}
		count := 0
		for lit := 1; lit <= x.Vars(); lit++ {
			value := x.Value(lit)
			if x.Value(-lit) != -value || value < -1 || value > 1 {
				t.Fatalf("%v: Value(%d): %d, of its complement %d", s, lit, value, x.Value(-lit))
			}
			if value != 0 {
				count++
			}
		}
		if count != x.Len() {
			t.Fatalf("%v: %d values, %d literals", s, count, x.Len())
		}
		for _, n := range []int{0, x.Vars() + 1, -x.Vars() - 1, math.MinInt, math.MaxInt} {
			if x.Value(n) != 0 {
				t.Fatalf("%v: Value(%d): %d", s, n, x.Value(n))
			}
		}
	})
}

// P19.4: along the trail levels do not decrease, and increase by one exactly where a literal was decided.
func TestLevels(t *testing.T) {
	walk(t, 4, func(x *trail.Trail, s step, _ api.Errno) {
		level := 0
		for i := range x.Len() {
			v := max(x.At(i), -x.At(i)) - 1
			if x.Reason(v) < 0 {
				level++
			}
			if x.LevelOf(v) != level {
				t.Fatalf("%v: level %d at %d, want %d", s, x.LevelOf(v), i, level)
			}
		}
		if x.Level() != level {
			t.Fatalf("%v: level %d, want %d", s, x.Level(), level)
		}
		for _, v := range numbers(x.Vars()) {
			assigned := v >= 0 && v < x.Vars() && x.Value(v+1) != 0
			if !assigned && (x.LevelOf(v) != -1 || x.Reason(v) != -1) {
				t.Fatalf("%v: level %d and reason %d of %d", s, x.LevelOf(v), x.Reason(v), v)
			}
		}
	})
}

// P19.5: Back to a level restores what was there when the next one was opened, so that behind Decide and anything else Back to the previous one restores everything.
func TestBacktracking(t *testing.T) {
	var last *trail.Trail
	var now []int      // behind the last step
	var opened [][]int // at each level: what was there ahead of the decision that opened the next one
	walk(t, 5, func(x *trail.Trail, s step, e api.Errno) {
		if x != last {
			y, _ := made(t, x.Vars())
			last, now, opened = x, picture(y, x.Vars()), nil
		}
		after := picture(x, x.Vars())
		switch {
		case e != api.OK:
			if !slices.Equal(after, now) {
				t.Fatalf("%v: %d, and changed the trail", s, e)
			}
		case s.kind == deciding:
			opened = append(opened, now)
		case s.kind == backing && s.n < len(opened):
			if !slices.Equal(after, opened[s.n]) {
				t.Fatalf("%v: %v, want %v", s, after, opened[s.n])
			}
			opened = opened[:s.n]
		case s.kind == backing:
			if !slices.Equal(after, now) {
				t.Fatalf("%v: the level that stands: %v, before it %v", s, after, now)
			}
		}
		if x.Level() != len(opened) {
			t.Fatalf("%v: level %d, want %d", s, x.Level(), len(opened))
		}
		now = after
	})
}

// of is what a trail tells of a variable.
func of(x *trail.Trail, v int) entry { return entry{x.Value(v + 1), x.LevelOf(v), x.Reason(v)} }

// P19.6: Assign and Decide change no other variable; they put a literal behind all others.
func TestLocality(t *testing.T) {
	var last *trail.Trail
	var before *trail.Trail
	walk(t, 6, func(x *trail.Trail, s step, e api.Errno) {
		if x != last {
			last, before = x, nil
		}
		if before != nil && e == api.OK && s.kind != backing {
			want := entry{1, before.Level(), s.more}
			if s.kind == deciding {
				want.level, want.reason = before.Level()+1, -1
			}
			if s.n < 0 {
				want.lit = -1
			}
			for v := range x.Vars() {
				if v != max(s.n, -s.n)-1 {
					if of(x, v) != of(before, v) {
						t.Fatalf("%v: %v of %d, before it %v", s, of(x, v), v, of(before, v))
					}
				} else if of(x, v) != want || of(before, v) != (entry{0, -1, -1}) {
					t.Fatalf("%v: %v of %d, want %v; before it %v", s, of(x, v), v, want, of(before, v))
				}
			}
			if x.Len() != before.Len()+1 || x.At(before.Len()) != s.n || x.Vars() != before.Vars() {
				t.Fatalf("%v: %d literals, at the end %d", s, x.Len(), x.At(x.Len()-1))
			}
			for i := range before.Len() {
				if x.At(i) != before.At(i) {
					t.Fatalf("%v: %d at %d, before it %d", s, x.At(i), i, before.At(i))
				}
			}
		}
		before = x.Copy()
	})
}

// placed is the literal that the tests of the largest trail put at a place: all variables occur, in another order than that of their numbers.
func placed(i int) int {
	lit := i*1000003%trail.MaxVars + 1
	if i%3 == 0 {
		return -lit
	}
	return lit
}

// wantPlaced asks for a trail on which these are the first, a decision at each place that is a multiple of 4, and an assignment at each other one.
func wantPlaced(t *testing.T, x *trail.Trail, count int) {
	t.Helper()
	if x.Len() != count || x.Level() != (count+3)/4 || x.At(count) != 0 {
		t.Fatalf("%d literals, level %d, behind the end %d; want %d literals", x.Len(), x.Level(), x.At(count), count)
	}
	for i := range trail.MaxVars {
		lit := placed(i)
		v := max(lit, -lit) - 1
		value, level, reason, at := 1, i/4+1, i, lit
		if i%4 == 0 {
			reason = -1
		}
		if i >= count {
			value, level, reason, at = 0, -1, -1, 0
		}
		if x.Value(lit) != value || x.Value(-lit) != -value || x.LevelOf(v) != level || x.Reason(v) != reason || x.At(i) != at {
			t.Fatalf("%d of %d: value %d, level %d, reason %d, at its place %d", i, count, x.Value(lit), x.LevelOf(v), x.Reason(v), x.At(i))
		}
	}
}

// P19.1 to P19.6: as many variables as there may be, all of them assigned, and taken back.
func TestLargest(t *testing.T) {
	x, _ := made(t, trail.MaxVars)
	for i := range trail.MaxVars {
		s := assign(placed(i), i)
		if i%4 == 0 {
			s = decide(placed(i))
		}
		if e := s.on(x); e != api.OK {
			t.Fatalf("%v: %d", s, e)
		}
	}
	wantPlaced(t, x, trail.MaxVars)
	for _, lit := range []int{1, -1, trail.MaxVars, -trail.MaxVars} {
		if d, a := x.Decide(lit), x.Assign(lit, 0); d != api.ErrState || a != api.ErrState {
			t.Errorf("%d: %d, %d", lit, d, a)
		}
	}
	for _, lit := range []int{trail.MaxVars + 1, -trail.MaxVars - 1} {
		if d, a := x.Decide(lit), x.Assign(lit, 0); d != api.ErrArg || a != api.ErrArg {
			t.Errorf("%d: %d, %d", lit, d, a)
		}
	}
	y := x.Copy()
	for _, level := range []int{trail.MaxVars / 4, trail.MaxVars/4 - 1, 1000, 0} {
		if e := x.Back(level); e != api.OK {
			t.Fatalf("Back(%d): %d", level, e)
		}
		wantPlaced(t, x, 4*level)
	}
	for level := y.Level() - 1; level >= 0; level-- {
		if e := y.Back(level); e != api.OK || y.Level() != level || y.Len() != 4*level {
			t.Fatalf("Back(%d): %d, level %d, %d literals", level, e, y.Level(), y.Len())
		}
	}
	wantPlaced(t, y, 0)
}
