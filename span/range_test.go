package span_test

import (
	"math"
	"testing"

	"chandlery/api"
	"chandlery/evr"
	"chandlery/span"
)

const meaning = api.Less | api.Equal | api.Greater // the bits of an Op that mean something

// version is the EVR of a text.
func version(t *testing.T, s string) api.EVR {
	t.Helper()
	e, f := evr.Parse(s)
	if f != api.OK {
		t.Fatalf("%q is no EVR", s)
	}
	return e
}

// ranged is the range of an Op's text, and an EVR's (none for Any).
func ranged(t *testing.T, op, s string) api.Dep {
	t.Helper()
	o, ok := span.Parse(op)
	if !ok {
		t.Fatalf("%q is no Op", op)
	}
	if o == api.Any {
		return api.Dep{Name: "a"}
	}
	return api.Dep{Name: "a", Op: o, EVR: version(t, s)}
}

// wantMeet asks Meet both ways.
func wantMeet(t *testing.T, a, b api.Dep, want bool) {
	t.Helper()
	if got := span.Meet(a, b); got != want {
		t.Fatalf("Meet(%+v, %+v): %v", a, b, got)
	}
	if got := span.Meet(b, a); got != want {
		t.Fatalf("Meet(%+v, %+v): %v", b, a, got)
	}
}

// wantHas asks Has.
func wantHas(t *testing.T, d api.Dep, e api.EVR, want bool) {
	t.Helper()
	if got := span.Has(d, e); got != want {
		t.Fatalf("Has(%+v, %+v): %v", d, e, got)
	}
}

// P4.2: an EVR below, at and above that of the range, with a Rel and without one; each Op in turn.
func TestHas(t *testing.T) {
	for _, c := range []struct {
		place    string
		bounds   []string // the range's EVR
		versions []string // below, at or above each of them
	}{
		{"below", []string{"2-2", "2-3", "2.0-1", "1:1-1", "1:1"}, []string{"2~rc-9", "2-1", "1-9", "1", "~"}},
		{"below", []string{"2", "2.1", "1:0"}, []string{"2~rc", "2~rc-9", "1.9-9", "1", "1-9"}},
		{"at", []string{"2", "2-1", "02-01", "2.-.1"}, []string{"2-1", "2", "02-1", "2_-1"}},
		{"at", []string{"2"}, []string{"2-~", "2-1", "2-999", "2"}},
		{"at", []string{"2-~", "2-1", "2-999"}, []string{"2"}},
		{"at", []string{"1:0-1", "1:0"}, []string{"1:0-1", "1:0"}},
		{"above", []string{"2-1", "2-1~rc", "1-9", "1"}, []string{"2-2", "2.0-0", "2^-1", "9", "1:0"}},
		{"above", []string{"2", "1.9"}, []string{"2^", "2.0-0", "10-1", "1:0-0"}},
	} {
		for _, bound := range c.bounds {
			for _, v := range c.versions {
				e := version(t, v)
				wantHas(t, ranged(t, "", ""), e, true)
				wantHas(t, ranged(t, "<", bound), e, c.place == "below")
				wantHas(t, ranged(t, "=", bound), e, c.place == "at")
				wantHas(t, ranged(t, ">", bound), e, c.place == "above")
				wantHas(t, ranged(t, "<=", bound), e, c.place != "above")
				wantHas(t, ranged(t, ">=", bound), e, c.place != "below")
			}
		}
	}
}

// P4.2: ranges with EVRs of which the first is less, and with the same.
func TestMeet(t *testing.T) {
	for _, c := range []struct {
		a, b                 string // of EVRs of which the first is less; of the same
		less, same, exchange bool   // exchange: with the greater EVR first
	}{
		{"<", "<", true, true, true},
		{"<", "=", false, false, true},
		{"<", ">", false, false, true},
		{"<", "<=", true, true, true},
		{"<", ">=", false, false, true},
		{"=", "=", false, true, false},
		{"=", ">", false, false, true},
		{"=", "<=", true, true, false},
		{"=", ">=", false, true, true},
		{">", ">", true, true, true},
		{">", "<=", true, false, false},
		{">", ">=", true, true, true},
		{"<=", "<=", true, true, true},
		{"<=", ">=", false, true, true},
		{">=", ">=", true, true, true},
		{"", "<", true, true, true},
		{"", "=", true, true, true},
		{"", ">", true, true, true},
		{"", "<=", true, true, true},
		{"", ">=", true, true, true},
		{"", "", true, true, true},
	} {
		for _, p := range [][2]string{{"1", "2"}, {"1-1", "1-2"}, {"9-9", "1:0-0"}, {"1~rc", "1-1"}, {"1-9", "1.0"}} {
			wantMeet(t, ranged(t, c.a, p[0]), ranged(t, c.b, p[1]), c.less)
			wantMeet(t, ranged(t, c.a, p[1]), ranged(t, c.b, p[0]), c.exchange)
		}
		for _, p := range [][2]string{{"1", "1"}, {"1-1", "1-1"}, {"1", "1-2"}, {"1-2", "1"}, {"1.0-1", "01_00-01"}, {"3:1", "3:1-1"}} {
			wantMeet(t, ranged(t, c.a, p[0]), ranged(t, c.b, p[1]), c.same)
		}
	}
}

// P4.1, P4.2: the chapter's examples.
func TestExamples(t *testing.T) {
	wantMeet(t, ranged(t, "<", "2"), ranged(t, ">", "1"), true)
	wantMeet(t, ranged(t, "<", "1"), ranged(t, ">", "1"), false)
	wantMeet(t, ranged(t, "=", "1"), ranged(t, ">=", "1"), true)
	wantHas(t, ranged(t, ">", "1"), version(t, "1.5"), true)
	if span.May(5) || span.Text(5) != "" {
		t.Error("the Op 5 is invalid")
	}
}

// P4.2: Names are ignored, valid or not.
func TestNamesAreIgnored(t *testing.T) {
	names := []string{"", "a", "b", "A", "/f", "a b", "\xff"}
	for _, d := range sample() {
		for _, b := range sample() {
			has, meet := span.Has(d, b.EVR), span.Meet(d, b)
			for _, n := range names {
				for _, m := range names {
					d.Name, b.Name = n, m
					wantHas(t, d, b.EVR, has)
					wantMeet(t, d, b, meet)
				}
			}
		}
	}
}

// P4.2: Any is all versions, whatever its EVR, and whatever that of the other.
func TestAnyIgnoresItsEVR(t *testing.T) {
	for _, e := range invalidEVRs() {
		for _, d := range invalidEVRs() {
			wantHas(t, api.Dep{EVR: d}, e, true)
			for op := range 256 {
				wantMeet(t, api.Dep{EVR: d}, api.Dep{Op: uint8(op), EVR: e}, true)
			}
		}
	}
}

// invalidEVRs are EVRs that are not valid, not even in a dependency, and some that are.
func invalidEVRs() []api.EVR {
	return []api.EVR{
		{}, {Epoch: -1, Ver: "1"}, {Epoch: math.MinInt}, {Epoch: math.MaxInt, Ver: "1", Rel: "1"}, {Rel: "1"},
		{Ver: "1 2", Rel: "-"}, {Ver: "\xff", Rel: "\x00"}, {Ver: "1"}, {Ver: "1", Rel: "1"}, {Epoch: 1, Ver: "1"},
	}
}

// sample are ranges of valid Ops, with a Rel and without one.
func sample() []api.Dep {
	l := []api.Dep{{}}
	for _, op := range []uint8{api.Less, api.Equal, api.Greater, api.Less | api.Equal, api.Greater | api.Equal} {
		for _, e := range []api.EVR{{Ver: "1"}, {Ver: "1", Rel: "1"}, {Ver: "1", Rel: "2"}, {Ver: "2"}, {Epoch: 1, Ver: "1", Rel: "1"}} {
			l = append(l, api.Dep{Op: op, EVR: e})
		}
	}
	return l
}

// expectedHas is what Has has to answer, by the words of the chapter.
func expectedHas(d api.Dep, e api.EVR) bool {
	less, equal, greater := d.Op%2 == 1, d.Op/2%2 == 1, d.Op/4%2 == 1
	if !less && !equal && !greater {
		return true
	}
	c := evr.Compare(e, d.EVR)
	return c < 0 && less || c == 0 && equal || c > 0 && greater
}

// expectedMeet is what Meet has to answer, by the words of the chapter.
func expectedMeet(a, b api.Dep) bool {
	less, equal, greater := a.Op%2 == 1, a.Op/2%2 == 1, a.Op/4%2 == 1
	bLess, bEqual, bGreater := b.Op%2 == 1, b.Op/2%2 == 1, b.Op/4%2 == 1
	if !less && !equal && !greater || !bLess && !bEqual && !bGreater {
		return true
	}
	c := evr.Compare(a.EVR, b.EVR)
	if c < 0 {
		return greater || bLess
	}
	if c > 0 {
		return less || bGreater
	}
	return equal && bEqual || less && bLess || greater && bGreater
}

// P4.2: all Ops, invalid ones bit by bit, with all pairs of some EVRs.
func TestAllOps(t *testing.T) {
	evrs := append(invalidEVRs(), api.EVR{Ver: "1", Rel: "2"}, api.EVR{Ver: "2"}, api.EVR{Ver: "2", Rel: "1"}, api.EVR{Ver: "01", Rel: "01"})
	for _, d := range evrs {
		for _, e := range evrs {
			for n := range 256 {
				a := api.Dep{Op: uint8(n), EVR: d}
				wantHas(t, a, e, expectedHas(a, e))
				for m := range 256 {
					b := api.Dep{Op: uint8(m), EVR: e}
					if got := span.Meet(a, b); got != expectedMeet(a, b) {
						t.Fatalf("Meet(%+v, %+v): %v", a, b, got)
					}
				}
			}
		}
	}
}

// P4.2: an invalid Op is taken bit by bit, without any of the three bits as Any; what else there is in it does not count.
func TestInvalidOpsByBits(t *testing.T) {
	at := func(op uint8, v string) api.Dep { return api.Dep{Op: op, EVR: version(t, v)} }
	for _, op := range []uint8{8, 16, 32, 64, 128, 248} {
		for _, v := range []string{"1", "2", "3"} {
			wantHas(t, at(op, "2"), version(t, v), true)
			wantMeet(t, at(op, "2"), at(api.Equal, v), true)
			wantMeet(t, at(op, "2"), at(op, v), true)
		}
	}
	for _, more := range []uint8{0, 8, 128, 248} {
		wantHas(t, at(5|more, "2"), version(t, "1"), true)
		wantHas(t, at(5|more, "2"), version(t, "2"), false)
		wantHas(t, at(5|more, "2"), version(t, "3"), true)
		for _, v := range []string{"1", "2", "3"} {
			wantHas(t, at(7|more, "2"), version(t, v), true)
			wantMeet(t, at(7|more, "2"), at(api.Equal, v), true)
			wantMeet(t, at(5|more, "2"), at(api.Equal, v), v != "2")
		}
		wantHas(t, at(api.Equal|more, "2"), version(t, "1"), false)
		wantMeet(t, at(api.Equal|more, "2"), at(api.Equal|8, "3"), false)
		wantMeet(t, at(api.Less|8, "2"), at(api.Greater|8, "2"), false)
	}
}

// P4.3: Meet is symmetric, a range meets itself, and Any meets all; also of invalid Ops.
func TestSymmetry(t *testing.T) {
	for n := range 256 {
		for m := range 256 {
			for _, e := range []string{"1", "1-1", "1-2", "2", "1:1-1"} {
				a, b := api.Dep{Op: uint8(n), EVR: version(t, "1-1")}, api.Dep{Op: uint8(m), EVR: version(t, e)}
				if span.Meet(a, b) != span.Meet(b, a) {
					t.Fatalf("Meet(%+v, %+v): %v, but not the other way round", a, b, span.Meet(a, b))
				}
				wantMeet(t, b, b, true)
				wantMeet(t, b, api.Dep{}, true)
			}
		}
	}
}

// grid are the EVRs of some epochs and versions, with these releases.
func grid(rels ...string) []api.EVR {
	var l []api.EVR
	for _, epoch := range []int{0, 1} {
		for _, ver := range []string{"~", "1", "01", "1.0", "2"} {
			for _, rel := range rels {
				l = append(l, api.EVR{Epoch: epoch, Ver: ver, Rel: rel})
			}
		}
	}
	return l
}

// intersects checks that of the EVRs none is in two ranges with these bounds that do not meet.
func intersects(t *testing.T, bounds, evrs []api.EVR) {
	t.Helper()
	for op := range meaning + 1 {
		for other := range meaning + 1 {
			for _, p := range bounds {
				for _, q := range bounds {
					a, b := api.Dep{Op: op, EVR: p}, api.Dep{Op: other, EVR: q}
					if span.Meet(a, b) {
						continue
					}
					for _, e := range evrs {
						if span.Has(a, e) && span.Has(b, e) {
							t.Fatalf("%+v is in %+v and in %+v, but they do not meet", e, a, b)
						}
					}
				}
			}
		}
	}
}

// P4.4: if some EVR is in both ranges they meet. (Asked for where EVRs compare transitively: the ranges' both with a Rel, and the EVR's too, or both without one.)
func TestIntersection(t *testing.T) {
	rels := []string{"~", "1", "01", "2"}
	intersects(t, grid(rels...), grid(rels...))
	intersects(t, grid(""), grid(append(rels, "")...))
}

// P4.2: where EVRs do not compare transitively the rule of the Terms decides: 1-5 is in both of these ranges.
func TestRuleDecides(t *testing.T) {
	a, b := ranged(t, "=", "1"), ranged(t, ">", "1-3")
	wantHas(t, a, version(t, "1-5"), true)
	wantHas(t, b, version(t, "1-5"), true)
	wantMeet(t, a, b, false)
}

// P4.4: a range of Equal meets another one exactly if its EVR is in that.
func TestEqualMeets(t *testing.T) {
	for _, e := range grid("", "~", "1", "01", "2") {
		for _, bound := range grid("", "~", "1", "2") {
			for op := range 256 {
				d := api.Dep{Op: uint8(op), EVR: bound}
				wantMeet(t, api.Dep{Op: api.Equal, EVR: e}, d, span.Has(d, e))
			}
		}
	}
}

// P4.5: with an additional bit in an Op that is not Any what met still meets.
func TestMoreBits(t *testing.T) {
	for _, p := range grid("", "1", "2") {
		for _, q := range grid("", "1", "2") {
			for op := uint8(1); op <= meaning; op++ {
				for other := range meaning + 1 {
					a, b := api.Dep{Op: op, EVR: p}, api.Dep{Op: other, EVR: q}
					if !span.Meet(a, b) {
						continue
					}
					for bit := uint8(1); bit != 0; bit <<= 1 {
						more := a
						more.Op |= bit
						wantMeet(t, more, b, true)
					}
				}
			}
		}
	}
}

// P4.6: an EVR is in exactly one of Less, Equal, Greater of another one; in Less and Equal exactly if it is in one of both, and so on.
func TestPartition(t *testing.T) {
	all := append(grid("", "~", "1", "2"), invalidEVRs()...)
	for _, bound := range all {
		for _, e := range all {
			in := func(op uint8) bool { return span.Has(api.Dep{Op: op, EVR: bound}, e) }
			n := 0
			for _, op := range []uint8{api.Less, api.Equal, api.Greater} {
				if in(op) {
					n++
				}
			}
			if n != 1 {
				t.Fatalf("%+v is in %d of Less, Equal, Greater of %+v", e, n, bound)
			}
			if in(api.Less|api.Equal) != (in(api.Less) || in(api.Equal)) || in(api.Greater|api.Equal) != (in(api.Greater) || in(api.Equal)) {
				t.Fatalf("%+v and two Ops in one, of %+v", e, bound)
			}
		}
	}
}
