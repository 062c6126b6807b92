package trail_test

import (
	"math"
	"slices"
	"testing"

	"chandlery/api"
	"chandlery/trail"
)

// P19.1, P19.2: what there is after some steps, each of which is done, in the order of the trail.
func TestSteps(t *testing.T) {
	for _, c := range []struct {
		vars  int
		steps []step
		level int
		want  []entry
	}{
		{0, nil, 0, nil},
		{2, nil, 0, nil},
		{2, []step{decide(1)}, 1, []entry{{1, 1, -1}}},
		{2, []step{decide(1), assign(-2, 7)}, 1, []entry{{1, 1, -1}, {-2, 1, 7}}},
		{2, []step{decide(1), assign(-2, 7), back(0)}, 0, nil},
		{2, []step{decide(1), assign(-2, 7), back(1)}, 1, []entry{{1, 1, -1}, {-2, 1, 7}}},
		{2, []step{assign(-2, 0)}, 0, []entry{{-2, 0, 0}}},
		{2, []step{assign(-2, 0), back(0)}, 0, []entry{{-2, 0, 0}}},
		{2, []step{decide(-2), back(0), decide(2)}, 1, []entry{{2, 1, -1}}},
		{2, []step{decide(-2), back(0), assign(2, math.MaxInt)}, 0, []entry{{2, 0, math.MaxInt}}},
		{2, []step{assign(1, 3), decide(2), back(0), assign(-2, 3)}, 0, []entry{{1, 0, 3}, {-2, 0, 3}}},
		{4, []step{assign(4, 0), decide(-1), assign(2, 5), decide(3)}, 2, []entry{{4, 0, 0}, {-1, 1, -1}, {2, 1, 5}, {3, 2, -1}}},
		{4, []step{assign(4, 0), decide(-1), assign(2, 5), decide(3), back(2)}, 2, []entry{{4, 0, 0}, {-1, 1, -1}, {2, 1, 5}, {3, 2, -1}}},
		{4, []step{assign(4, 0), decide(-1), assign(2, 5), decide(3), back(1)}, 1, []entry{{4, 0, 0}, {-1, 1, -1}, {2, 1, 5}}},
		{4, []step{assign(4, 0), decide(-1), assign(2, 5), decide(3), back(0)}, 0, []entry{{4, 0, 0}}},
		{4, []step{assign(4, 0), decide(-1), assign(2, 5), decide(3), back(1), assign(-3, 2)}, 1, []entry{{4, 0, 0}, {-1, 1, -1}, {2, 1, 5}, {-3, 1, 2}}},
		{4, []step{assign(4, 0), decide(-1), assign(2, 5), decide(3), back(1), decide(-3)}, 2, []entry{{4, 0, 0}, {-1, 1, -1}, {2, 1, 5}, {-3, 2, -1}}},
		{4, []step{decide(1), decide(2), decide(3), decide(4), back(0), decide(4), decide(-3)}, 2, []entry{{4, 1, -1}, {-3, 2, -1}}},
		{4, []step{decide(1), decide(2), decide(3), back(2), back(1), assign(3, 9), assign(4, 9)}, 1, []entry{{1, 1, -1}, {3, 1, 9}, {4, 1, 9}}},
	} {
		x, _ := made(t, c.vars)
		for _, s := range c.steps {
			if e := s.on(x); e != api.OK {
				t.Errorf("%v: %v: %d", c.steps, s, e)
			}
		}
		wantLike(t, c.steps, x, diary{c.vars, c.level, c.want})
	}
}

// P19.2: what is told of literals, variables and places, number by number.
func TestTold(t *testing.T) {
	x, _ := made(t, 3)
	for _, s := range []step{assign(-3, 4), decide(1)} {
		if e := s.on(x); e != api.OK {
			t.Fatalf("%v: %d", s, e)
		}
	}
	for _, c := range []struct{ n, value, level, reason, at int }{
		{math.MinInt, 0, -1, -1, 0},
		{-4, 0, -1, -1, 0},
		{-3, 1, -1, -1, 0},
		{-2, 0, -1, -1, 0},
		{-1, -1, -1, -1, 0},
		{0, 0, 1, -1, -3},
		{1, 1, -1, -1, 1},
		{2, 0, 0, 4, 0},
		{3, -1, -1, -1, 0},
		{4, 0, -1, -1, 0},
		{trail.MaxVars, 0, -1, -1, 0},
		{math.MaxInt, 0, -1, -1, 0},
	} {
		if got := x.Value(c.n); got != c.value {
			t.Errorf("Value(%d): %d, want %d", c.n, got, c.value)
		}
		if got := x.LevelOf(c.n); got != c.level {
			t.Errorf("LevelOf(%d): %d, want %d", c.n, got, c.level)
		}
		if got := x.Reason(c.n); got != c.reason {
			t.Errorf("Reason(%d): %d, want %d", c.n, got, c.reason)
		}
		if got := x.At(c.n); got != c.at {
			t.Errorf("At(%d): %d, want %d", c.n, got, c.at)
		}
	}
	if x.Vars() != 3 || x.Len() != 2 || x.Level() != 1 {
		t.Errorf("%d variables, %d literals, level %d", x.Vars(), x.Len(), x.Level())
	}
}

// P19.1: New's errors, and as many variables as there may be.
func TestNew(t *testing.T) {
	if trail.MaxVars != 2097152 {
		t.Fatalf("MaxVars is %d", trail.MaxVars)
	}
	for _, vars := range []int{-1, -2, math.MinInt, trail.MaxVars + 1, math.MaxInt} {
		if x, e := trail.New(vars); x != nil || e != api.ErrArg {
			t.Errorf("New(%d): %v, %d", vars, x, e)
		}
	}
	for _, vars := range []int{0, 1, 2, 100} {
		x, d := made(t, vars)
		wantLike(t, vars, x, d)
	}
	x, _ := made(t, trail.MaxVars)
	if x.Vars() != trail.MaxVars || x.Len() != 0 || x.Level() != 0 || x.Value(trail.MaxVars) != 0 || x.LevelOf(trail.MaxVars-1) != -1 {
		t.Errorf("%d variables, %d literals, level %d", x.Vars(), x.Len(), x.Level())
	}
}

// P19.1, P19.2: a trail of nil, and what is asked of one without variables.
func TestNothing(t *testing.T) {
	var x *trail.Trail
	all := []step{decide(1), decide(0), assign(1, 0), assign(0, 0), assign(1, -1), back(0), back(-1), back(1)}
	for _, s := range all {
		if e := s.on(x); e != api.ErrNil {
			t.Errorf("nil: %v: %d", s, e)
		}
	}
	if x.Copy() != nil {
		t.Error("nil: Copy is not nil")
	}
	wantLike(t, "nil", x, diary{})

	y, d := made(t, 0)
	for _, s := range all {
		want := api.ErrArg
		if s == back(0) {
			want = api.OK
		}
		if e := s.on(y); e != want {
			t.Errorf("no variables: %v: %d, want %d", s, e, want)
		}
		wantLike(t, s, y, d)
		wantLike(t, s, y.Copy(), d)
	}
}

// P19.1: each error of Decide, Assign and Back, in the order of the chapter's table; what is refused changes nothing.
func TestRefused(t *testing.T) {
	x, d := made(t, 4)
	wantSteps(t, x, &d, assign(4, 0), decide(-1), assign(2, 5))
	before := picture(x, 4)
	noLiterals := []int{0, 5, -5, 6, -6, trail.MaxVars, -trail.MaxVars, math.MinInt, math.MinInt + 1, math.MaxInt - 1, math.MaxInt}
	taken := []int{4, -4, 1, -1, 2, -2}
	var argument, state []step
	for _, lit := range noLiterals {
		argument = append(argument, decide(lit))
		for _, reason := range []int{0, 1, math.MaxInt, -1, math.MinInt} {
			argument = append(argument, assign(lit, reason))
		}
	}
	for _, reason := range []int{-1, -2, math.MinInt} {
		for _, lit := range append(slices.Clone(taken), 3, -3) {
			argument = append(argument, assign(lit, reason))
		}
	}
	for _, level := range []int{-1, -2, math.MinInt, 2, 3, math.MaxInt} {
		argument = append(argument, back(level))
	}
	for _, lit := range taken {
		state = append(state, decide(lit), assign(lit, 0), assign(lit, 5), assign(lit, math.MaxInt))
	}
	for want, steps := range map[api.Errno][]step{api.ErrArg: argument, api.ErrState: state} {
		for _, s := range steps {
			if e := s.on(x); e != want {
				t.Errorf("%v: %d, want %d", s, e, want)
			}
			if !slices.Equal(picture(x, 4), before) {
				t.Fatalf("%v: changed the trail", s)
			}
		}
	}
	wantSteps(t, x, &d, assign(-3, 0), back(1), back(0), decide(1), assign(2, 0), assign(3, 0), decide(4))
}

// mixed are the steps of two, in turn: whose they are, and the steps.
func mixed(mine, yours []step) (whose []int, l []step) {
	for i := range max(len(mine), len(yours)) {
		if i < len(mine) {
			whose, l = append(whose, 0), append(l, mine[i])
		}
		if i < len(yours) {
			whose, l = append(whose, 1), append(l, yours[i])
		}
	}
	return whose, l
}

// P19.2: a copy goes its own way, from either side; whatever is done on one of both, the other one stays as it is. Between the levels there is room for either to write where the other one does, if they have memory in common.
func TestCopy(t *testing.T) {
	start := []step{assign(5, 1), decide(1), assign(-2, 7), decide(3), assign(6, 2), decide(8)}
	ways := [][]step{
		{assign(4, 3)},
		{decide(4), decide(7), back(4), back(3)},
		{assign(-4, 3), decide(-7), assign(9, 0), back(3)},
		{assign(9, 3), assign(4, 3), decide(-7), back(3), back(0)},
		{back(2), decide(-4), decide(7)},
		{back(1), assign(-3, 8), assign(4, 8), assign(6, 9)},
		{back(1), decide(-3), assign(-6, 0)},
		{back(0), decide(-1), decide(2), decide(4)},
		{back(0), assign(2, 5), assign(1, 5), assign(3, 5), assign(-7, 5)},
		{assign(5, 0), assign(4, -1), decide(0), back(4)},
	}
	for _, mine := range ways {
		for _, yours := range ways {
			for first := range 2 {
				var trails [2]*trail.Trail
				var diaries [2]diary
				trails[first], diaries[first] = made(t, 9)
				wantSteps(t, trails[first], &diaries[first], start...)
				trails[1-first], diaries[1-first] = trails[first].Copy(), diaries[first].copy()
				wantLike(t, "a copy", trails[1-first], diaries[1-first])
				whose, l := mixed(mine, yours)
				for i, s := range l {
					wantSteps(t, trails[whose[i]], &diaries[whose[i]], s)
					wantLike(t, l[:i+1], trails[0], diaries[0])
					wantLike(t, l[:i+1], trails[1], diaries[1])
				}
			}
		}
	}
}
