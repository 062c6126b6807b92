package evr_test

import (
	"math"
	"strings"
	"testing"

	"chandlery/api"
	"chandlery/evr"
	"chandlery/vercmp"
)

// parsed is the EVR of a text that is one.
func parsed(t *testing.T, s string) api.EVR {
	t.Helper()
	e, f := evr.Parse(s)
	if f != api.OK {
		t.Fatalf("Parse(%q): %v", s, f)
	}
	return e
}

// wantCompare asks Compare both ways.
func wantCompare(t *testing.T, a, b api.EVR, want int) {
	t.Helper()
	if got := evr.Compare(a, b); got != want {
		t.Fatalf("Compare(%+v, %+v): %d, want %d", a, b, got, want)
	}
	if got := evr.Compare(b, a); got != -want {
		t.Fatalf("Compare(%+v, %+v): %d, want %d", b, a, got, -want)
	}
}

// P3.2: each row is above the one before it; in a row all are the same.
func TestCompareRows(t *testing.T) {
	rows := [][]string{
		{"~-1"},
		{"0-1", "00-1", "0-01"},
		{"1~rc-1"},
		{"1-~"},
		{"1-."},
		{"1-1~rc"},
		{"1-1", "01-1", "1-01", "1.-1", "1-_1"},
		{"1-1^a"},
		{"1-1.a"},
		{"1-1.0"},
		{"1-2"},
		{"1-9"},
		{"1-10"},
		{"1^a-1"},
		{"1.a-1"},
		{"1.0-1", "1_0-1"},
		{"1.1-1"},
		{"2-1"},
		{"9-1"},
		{"9-2"},
		{"10-1"},
		{"1:0-1"},
		{"1:1-1"},
		{"1:1-2"},
		{"1:2-1"},
		{"2:0-1"},
		{"9:9-9"},
		{"10:~-~"},
		{"2147483647:~-~"},
	}
	for i, row := range rows {
		for j, other := range rows {
			want := 0
			if i < j {
				want = -1
			} else if i > j {
				want = 1
			}
			for _, a := range row {
				for _, b := range other {
					wantCompare(t, parsed(t, a), parsed(t, b), want)
				}
			}
		}
	}
}

// P3.2: the chapter's examples.
func TestCompareExamples(t *testing.T) {
	wantCompare(t, parsed(t, "1:1-1"), parsed(t, "9-1"), 1)
	wantCompare(t, parsed(t, "1-2"), parsed(t, "1"), 0)
	wantCompare(t, parsed(t, "1-2"), parsed(t, "1-1"), 1)
}

// P3.2: any two compare, valid or not.
func TestCompareInvalid(t *testing.T) {
	long := strings.Repeat("9", 100000)
	for _, c := range []struct {
		a, b api.EVR
		want int
	}{
		{api.EVR{}, api.EVR{}, 0},
		{api.EVR{}, api.EVR{Ver: "1", Rel: "1"}, -1},
		{api.EVR{}, api.EVR{Rel: "1"}, 0},
		{api.EVR{Rel: "1"}, api.EVR{Rel: "2"}, -1},
		{api.EVR{Epoch: 1}, api.EVR{Ver: "1"}, 1},
		{api.EVR{Epoch: -1, Ver: "2"}, api.EVR{Ver: "1"}, -1},
		{api.EVR{Epoch: -2, Ver: "1"}, api.EVR{Epoch: -1, Ver: "1"}, -1},
		{api.EVR{Epoch: math.MinInt}, api.EVR{Epoch: math.MaxInt}, -1},
		{api.EVR{Epoch: math.MinInt}, api.EVR{Epoch: 1}, -1},
		{api.EVR{Epoch: -2}, api.EVR{Epoch: math.MaxInt}, -1},
		{api.EVR{Epoch: math.MaxInt}, api.EVR{Epoch: math.MaxInt - 1}, 1},
		{api.EVR{Epoch: 1 << 32}, api.EVR{}, 1},
		{api.EVR{Ver: "1 "}, api.EVR{Ver: "1"}, 0},
		{api.EVR{Ver: "1-1", Rel: "1"}, api.EVR{Ver: "1.1", Rel: "1"}, 0},
		{api.EVR{Ver: "1", Rel: "-"}, api.EVR{Ver: "1", Rel: "1"}, -1},
		{api.EVR{Ver: "1:2", Rel: "\xff"}, api.EVR{Ver: "1:2", Rel: "\x00"}, 0},
		{api.EVR{Ver: long + "1"}, api.EVR{Ver: long + "2"}, -1},
		{api.EVR{Ver: "1", Rel: long + "1"}, api.EVR{Ver: "1", Rel: long + "2"}, -1},
	} {
		wantCompare(t, c.a, c.b, c.want)
	}
}

// grid are many EVRs, with these releases.
func grid(rels ...string) []api.EVR {
	var l []api.EVR
	for _, epoch := range []int{-1, 0, 1, api.MaxEpoch, 1 << 40} {
		for _, ver := range []string{"", "~", "1~rc", "1", "01", "1^", "1.a", "1.0", "1_0", "10", "9", "-"} {
			for _, rel := range rels {
				l = append(l, api.EVR{Epoch: epoch, Ver: ver, Rel: rel})
			}
		}
	}
	return l
}

// expected is what Compare has to answer, by Epoch, Ver and Rel.
func expected(a, b api.EVR) int {
	if a.Epoch < b.Epoch {
		return -1
	}
	if a.Epoch > b.Epoch {
		return 1
	}
	c := vercmp.Compare(a.Ver, b.Ver)
	if c == 0 && len(a.Rel)*len(b.Rel) > 0 {
		c = vercmp.Compare(a.Rel, b.Rel)
	}
	return c
}

// P3.2: all pairs of many EVRs.
func TestCompareAll(t *testing.T) {
	l := grid("", ".", "~", "1", "01", "2", "10")
	for _, a := range l {
		for _, b := range l {
			wantCompare(t, a, b, expected(a, b))
		}
	}
}

// P3.4: with nonempty Rel, exchanging negates, each is the same as itself, and the relation is transitive.
func TestOrder(t *testing.T) {
	l := grid(".", "~", "1", "01", "2")
	for _, a := range l {
		if c := evr.Compare(a, a); c != 0 {
			t.Fatalf("Compare(%+v, itself): %d", a, c)
		}
		for _, b := range l {
			c := evr.Compare(a, b)
			if d := evr.Compare(b, a); c != -d || c < -1 || c > 1 {
				t.Fatalf("Compare of %+v and %+v: %d, %d", a, b, c, d)
			}
			if c > 0 {
				continue
			}
			for _, third := range l {
				d := evr.Compare(b, third)
				if d > 0 {
					continue
				}
				if e := evr.Compare(a, third); e != min(c, d) {
					t.Fatalf("%+v, %+v, %+v: %d, %d, but %d", a, b, third, c, d, e)
				}
			}
		}
	}
}

// P3.5: a greater Epoch is greater, whatever Ver and Rel.
func TestEpochDecides(t *testing.T) {
	epochs := []int{0, 1, 2, 9, 10, api.MaxEpoch - 1, api.MaxEpoch}
	texts := []string{"~", "1", "99999999999999999999", "z", "1^"}
	for i, less := range epochs {
		for _, greater := range epochs[i+1:] {
			for _, v := range texts {
				for _, w := range texts {
					for _, rels := range [][2]string{{"1", "1"}, {"2", "1"}, {"", "1"}, {"1", ""}, {"", ""}} {
						wantCompare(t, api.EVR{Epoch: less, Ver: v, Rel: rels[0]}, api.EVR{Epoch: greater, Ver: w, Rel: rels[1]}, -1)
					}
				}
			}
		}
	}
}

// P3.5: with the same Epoch Ver decides, if these differ; with the same Ver, too, Rel decides.
func TestVerThenRelDecides(t *testing.T) {
	rising := []string{"~", "1~rc", "1", "1^post", "1.a", "1.0", "2", "9", "10"}
	rels := []string{"1", "2", "~", "99999999999999999999"}
	for _, epoch := range []int{0, 7, api.MaxEpoch} {
		for i, less := range rising {
			for _, greater := range rising[i+1:] {
				for _, r := range rels {
					for _, s := range rels {
						wantCompare(t, api.EVR{Epoch: epoch, Ver: less, Rel: r}, api.EVR{Epoch: epoch, Ver: greater, Rel: s}, -1)
					}
				}
				for _, v := range [][2]string{{"1", "1"}, {"1.0", "01_00"}, {"~", ".~"}} { // versions that are the same, whatever their bytes
					wantCompare(t, api.EVR{Epoch: epoch, Ver: v[0], Rel: less}, api.EVR{Epoch: epoch, Ver: v[1], Rel: greater}, -1)
				}
			}
		}
	}
}

// P3.6: without a Rel an EVR compares with another one exactly as their Epochs and Vers do.
func TestAnyRelease(t *testing.T) {
	all := grid("", ".", "~", "1", "2")
	for _, a := range grid("") {
		for _, b := range all {
			plain := b
			plain.Rel = ""
			wantCompare(t, a, b, expected(a, plain))
			wantCompare(t, a, plain, expected(a, plain))
		}
	}
}
