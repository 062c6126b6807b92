package arch_test

import (
	"testing"

	"chandlery/api"
	"chandlery/arch"
)

// pairs are all pairs of architectures: the score of the second one on the first one as a machine; whether the two are apart, or one may follow the other.
var pairs = []struct {
	a, b           uint8
	score          int
	apart, follows bool
}{
	{api.NoArch, api.NoArch, 0, false, true},
	{api.NoArch, api.X8664, 0, false, true},
	{api.NoArch, api.I686, 0, false, true},
	{api.NoArch, api.AArch64, 0, false, true},
	{api.X8664, api.NoArch, 2, false, true},
	{api.X8664, api.X8664, 1, false, true},
	{api.X8664, api.I686, 3, true, false},
	{api.X8664, api.AArch64, 0, true, false},
	{api.I686, api.NoArch, 2, false, true},
	{api.I686, api.X8664, 0, true, false},
	{api.I686, api.I686, 1, false, true},
	{api.I686, api.AArch64, 0, true, false},
	{api.AArch64, api.NoArch, 2, false, true},
	{api.AArch64, api.X8664, 0, true, false},
	{api.AArch64, api.I686, 0, true, false},
	{api.AArch64, api.AArch64, 1, false, true},
}

// P5.2: each pair of architectures: what fits, with which score, what is apart, and what may follow.
func TestPairs(t *testing.T) {
	for _, c := range pairs {
		if got := arch.Fits(c.a, c.b); got != (c.score > 0) {
			t.Errorf("Fits(%d, %d): %v", c.a, c.b, got)
		}
		if got := arch.Score(c.a, c.b); got != c.score {
			t.Errorf("Score(%d, %d): %d, want %d", c.a, c.b, got, c.score)
		}
		if got := arch.Apart(c.a, c.b); got != c.apart {
			t.Errorf("Apart(%d, %d): %v", c.a, c.b, got)
		}
		if got := arch.Follows(c.a, c.b); got != c.follows {
			t.Errorf("Follows(%d, %d): %v", c.a, c.b, got)
		}
	}
}

// wantNothing asks all relations for a pair of which one at least is no architecture.
func wantNothing(t *testing.T, a, b uint8) {
	t.Helper()
	if arch.Fits(a, b) {
		t.Errorf("Fits(%d, %d): true", a, b)
	}
	if n := arch.Score(a, b); n != 0 {
		t.Errorf("Score(%d, %d): %d", a, b, n)
	}
	if arch.Apart(a, b) {
		t.Errorf("Apart(%d, %d): true", a, b)
	}
	if arch.Follows(a, b) {
		t.Errorf("Follows(%d, %d): true", a, b)
	}
}

// P5.2: what is no architecture is no machine, fits none, is not apart from anything, and follows nothing, itself included.
func TestNoPair(t *testing.T) {
	for _, a := range others() {
		for _, c := range archs {
			wantNothing(t, a, c.a)
			wantNothing(t, c.a, a)
		}
		for _, b := range others() {
			wantNothing(t, a, b)
		}
	}
}

// P5.2: NoArch is no machine: nothing fits it, not even NoArch; but it fits each machine, and follows, and is followed by, each architecture.
func TestNoArch(t *testing.T) {
	for _, c := range archs {
		if arch.Fits(api.NoArch, c.a) || arch.Score(api.NoArch, c.a) != 0 {
			t.Errorf("%s fits noarch", c.name)
		}
		if arch.Fits(c.a, api.NoArch) != c.machine {
			t.Errorf("Fits(%s, noarch): %v", c.name, !c.machine)
		}
		if !arch.Follows(api.NoArch, c.a) || !arch.Follows(c.a, api.NoArch) {
			t.Errorf("noarch and %s do not follow one another", c.name)
		}
	}
}

// P5.1, P5.2: the chapter's examples, by the architectures' names.
func TestExamples(t *testing.T) {
	of := func(name string) uint8 {
		a, e := arch.Parse(name)
		if e != api.OK {
			t.Fatalf("Parse(%q): %v", name, e)
		}
		return a
	}
	if n := arch.Score(of("x86_64"), of("i686")); n != 3 {
		t.Error("score of i686 on x86_64:", n)
	}
	if n := arch.Score(of("i686"), of("x86_64")); n != 0 {
		t.Error("score of x86_64 on i686:", n)
	}
	if n := arch.Score(of("aarch64"), of("noarch")); n != 2 {
		t.Error("score of noarch on aarch64:", n)
	}
	if !arch.Apart(of("x86_64"), of("i686")) {
		t.Error("x86_64 and i686 are apart")
	}
	if !arch.Follows(of("noarch"), of("i686")) {
		t.Error("noarch may follow i686")
	}
}

// P5.4: a score is above 0 exactly if the architecture fits, and never below; that of the machine itself is the least; different ones that fit have different scores.
func TestScores(t *testing.T) {
	for n := range 256 {
		machine := uint8(n)
		ofScore := map[int]uint8{}
		for m := range 256 {
			a := uint8(m)
			score := arch.Score(machine, a)
			if arch.Fits(machine, a) != (score > 0) || score < 0 {
				t.Errorf("Score(%d, %d): %d, Fits: %v", machine, a, score, arch.Fits(machine, a))
			}
			if score == 0 {
				continue
			}
			if !arch.Machine(machine) || arch.Name(a) == "" {
				t.Errorf("Score(%d, %d): %d, of no machine, or of no architecture", machine, a, score)
			}
			if a != machine && score <= arch.Score(machine, machine) {
				t.Errorf("Score(%d, %d): %d, not above that of the machine itself", machine, a, score)
			}
			if other, ok := ofScore[score]; ok {
				t.Errorf("on %d both %d and %d have the score %d", machine, other, a, score)
			}
			ofScore[score] = a
		}
		if arch.Machine(machine) && ofScore[1] != machine {
			t.Errorf("on %d the score 1 is that of %d", machine, ofScore[1])
		}
	}
}

// P5.5: of two architectures exactly one holds, that they are apart, or that one may follow the other; both relations are symmetric.
func TestOneOrTheOther(t *testing.T) {
	for n := range 256 {
		for m := range 256 {
			a, b := uint8(n), uint8(m)
			apart, follows := arch.Apart(a, b), arch.Follows(a, b)
			if apart != arch.Apart(b, a) || follows != arch.Follows(b, a) {
				t.Errorf("%d and %d: not the same the other way round", a, b)
			}
			both := arch.Name(a) != "" && arch.Name(b) != ""
			if both != (apart != follows) || apart && follows {
				t.Errorf("%d and %d: apart %v, follow %v", a, b, apart, follows)
			}
		}
	}
}
