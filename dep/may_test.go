package dep_test

import (
	"math"
	"strings"
	"testing"

	"chandlery/api"
	"chandlery/dep"
	"chandlery/evr"
	"chandlery/span"
)

var longest = strings.Repeat("9", api.MaxName)

// validEVRs are EVRs that are valid in a dependency.
var validEVRs = []api.EVR{
	{Ver: "1"},
	{Ver: "0"},
	{Ver: "1", Rel: "1"},
	{Epoch: 1, Ver: "0"},
	{Epoch: 2, Ver: "1.4", Rel: "1"},
	{Epoch: api.MaxEpoch, Ver: longest, Rel: longest},
	{Ver: "._+~^", Rel: "._+~^"},
	{Ver: "with", Rel: "or"},
}

// invalidEVRs are EVRs that are neither valid in a dependency nor empty.
var invalidEVRs = []api.EVR{
	{Epoch: 1},
	{Rel: "1"},
	{Epoch: 1, Rel: "1"},
	{Epoch: -1},
	{Epoch: -1, Ver: "1"},
	{Epoch: math.MinInt, Ver: "1", Rel: "1"},
	{Epoch: api.MaxEpoch + 1, Ver: "1"},
	{Epoch: 1 << 32, Ver: "1"},
	{Epoch: math.MaxInt, Ver: "1", Rel: "1"},
	{Ver: longest + "9"},
	{Ver: "1", Rel: longest + "9"},
	{Ver: "1-1"},
	{Ver: "1:1"},
	{Ver: "1 "},
	{Ver: " 1"},
	{Ver: "1", Rel: "1-1"},
	{Ver: "1", Rel: " "},
	{Ver: " "},
	{Ver: "/"},
	{Ver: "\x00"},
	{Ver: "\xff"},
	{Ver: "1", Rel: "\u00e9"},
}

// ops are the Ops that are valid, and not Any, with their texts.
var ops = []struct {
	op   uint8
	text string
}{
	{api.Less, "<"},
	{api.Equal, "="},
	{api.Greater, ">"},
	{api.Less | api.Equal, "<="},
	{api.Greater | api.Equal, ">="},
}

// opIsValid says whether an Op that is not Any is valid.
func opIsValid(op uint8) bool {
	for _, o := range ops {
		if o.op == op {
			return true
		}
	}
	return false
}

// wantMay asks May, and Words and Show for an error.
func wantMay(t *testing.T, d api.Dep, want bool) {
	t.Helper()
	if got := dep.May(d); got != want {
		t.Errorf("May(%+v): %v", d, got)
	}
	wantError := api.OK
	if !want {
		wantError = api.ErrForm
	}
	l, e := dep.Words(d)
	if e != wantError || want == (l == nil) {
		t.Errorf("Words(%+v): %q, %v", d, l, e)
	}
	s, e := dep.Show(d)
	if e != wantError || want == (s == "") {
		t.Errorf("Show(%+v): %q, %v", d, s, e)
	}
}

// P6.1: each number of a byte as the Op, with EVRs that are valid, invalid and empty, of names that are valid, invalid, and of a file.
func TestMay(t *testing.T) {
	plain := []string{"a", "libfoo", "a/b", "If", "without-", "-", "9", "~", strings.Repeat("a", api.MaxName)}
	files := []string{"/", "/usr/bin/sh", "/with", "//"}
	wrong := append([]string{"", " ", "a b", "a=", "=", "/ ", "/\xff", "\x00", strings.Repeat("a", api.MaxName+1)}, words...)
	for n := range 256 {
		op := uint8(n)
		for _, name := range plain {
			wantMay(t, api.Dep{Name: name, Op: op}, op == api.Any)
			for _, e := range validEVRs {
				wantMay(t, api.Dep{Name: name, Op: op, EVR: e}, opIsValid(op))
			}
			for _, e := range invalidEVRs {
				wantMay(t, api.Dep{Name: name, Op: op, EVR: e}, false)
			}
		}
		for _, name := range files {
			wantMay(t, api.Dep{Name: name, Op: op}, op == api.Any)
			for _, e := range append(validEVRs, invalidEVRs...) {
				wantMay(t, api.Dep{Name: name, Op: op, EVR: e}, false)
			}
		}
		for _, name := range wrong {
			for _, e := range append(append([]api.EVR{{}}, validEVRs...), invalidEVRs...) {
				wantMay(t, api.Dep{Name: name, Op: op, EVR: e}, false)
			}
		}
	}
}

// P6.1: with an Op the sizes of the EVR are those of a dependency; Rel may be empty, Ver may not.
func TestMaySizes(t *testing.T) {
	for _, o := range ops {
		for size := range 2 * api.MaxName {
			s := strings.Repeat("1", size)
			ok := size >= 1 && size <= api.MaxName
			wantMay(t, api.Dep{Name: "a", Op: o.op, EVR: api.EVR{Ver: s}}, ok)
			wantMay(t, api.Dep{Name: "a", Op: o.op, EVR: api.EVR{Ver: s, Rel: "1"}}, ok)
			wantMay(t, api.Dep{Name: "a", Op: o.op, EVR: api.EVR{Ver: "1", Rel: s}}, ok || size == 0)
			wantMay(t, api.Dep{Name: s, Op: o.op, EVR: api.EVR{Ver: "1"}}, ok)
		}
	}
}

// P6.4: a valid dependency has a valid name, Op and EVR, the name of a file has no Op; and what has all that is valid.
func TestParts(t *testing.T) {
	names := append([]string{"", "a", "/", "/a", "a/", "a b", "libfoo", "If", strings.Repeat("a", api.MaxName), strings.Repeat("/", api.MaxName+1)}, words...)
	valid := 0
	for _, name := range names {
		for n := range 256 {
			for _, e := range append(append([]api.EVR{{}}, validEVRs...), invalidEVRs...) {
				d := api.Dep{Name: name, Op: uint8(n), EVR: e}
				versions := d.Op == api.Any && e == api.EVR{} || d.Op != api.Any && evr.May(e, true)
				parts := dep.Name(name) && span.May(d.Op) && versions && !(dep.File(name) && d.Op != api.Any)
				if got := dep.May(d); got != parts {
					t.Errorf("May(%+v): %v", d, got)
				}
				if parts {
					valid++
				}
			}
		}
	}
	if want := 7 + 5*len(ops)*len(validEVRs); valid != want { // seven valid names, two of them of files
		t.Errorf("%d are valid, not %d", valid, want)
	}
}
