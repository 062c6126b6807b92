package vercmp_test

import (
	"slices"
	"strings"
	"testing"

	"chandlery/vercmp"
)

// P2.2: lists of none, of one, and of several, the same ones in their order.
func TestSort(t *testing.T) {
	for _, c := range []struct{ l, want []string }{
		{nil, nil},
		{[]string{}, nil},
		{[]string{""}, []string{""}},
		{[]string{"1.0"}, []string{"1.0"}},
		{[]string{"2", "1"}, []string{"1", "2"}},
		{[]string{"1", "2"}, []string{"1", "2"}},
		{[]string{"1.0", "1_0", "01.00"}, []string{"1.0", "1_0", "01.00"}},
		{[]string{"01.00", "1_0", "1.0"}, []string{"01.00", "1_0", "1.0"}},
		{[]string{"1", "1", "1"}, []string{"1", "1", "1"}},
		{[]string{"1.0", "1.a", "1^post", "1", "1~rc"}, []string{"1~rc", "1", "1^post", "1.a", "1.0"}},
		{[]string{"10", "01", "9", "", "1", "~", "001", "."}, []string{"~", "", ".", "01", "1", "001", "9", "10"}},
	} {
		if got := vercmp.Sort(c.l); !slices.Equal(got, c.want) {
			t.Errorf("Sort(%q): %q, want %q", c.l, got, c.want)
		}
	}
}

// scattered are many versions, in an order far from theirs, and many of them the same.
func scattered() []string {
	all := texts("~^aB01.", 3)
	l := make([]string, 0, len(all))
	for i := range all {
		l = append(l, all[i*277%len(all)])
	}
	return l
}

// P2.2: many versions: the same ones, none after a greater one, and those that compare the same in their order.
func TestSortMany(t *testing.T) {
	l := scattered()
	got := vercmp.Sort(l)
	for i := 1; i < len(got); i++ {
		if vercmp.Compare(got[i-1], got[i]) > 0 {
			t.Errorf("%q before %q", got[i-1], got[i])
		}
	}
	want := slices.Clone(l)
	slices.SortStableFunc(want, expected)
	if !slices.Equal(got, want) {
		t.Error("not the same versions in the same order")
	}
	if slices.Equal(got, l) {
		t.Error("the list was sorted already, so it tests nothing")
	}
}

// R1: the list is not changed, and the answer shares no memory with it.
func TestSortIsNew(t *testing.T) {
	l := scattered()
	before := slices.Clone(l)
	got := vercmp.Sort(l)
	for i := range got {
		got[i] = "x"
	}
	if !slices.Equal(l, before) {
		t.Error("the list has changed")
	}
	long := strings.Repeat("1.", 20)
	for _, s := range vercmp.Sort([]string{long, long + "2"}) {
		if shared(s, long) {
			t.Error("a version shares memory with the list")
		}
	}
}

// P2.2: each call answers the same.
func TestSameEachTime(t *testing.T) {
	l := scattered()
	if !slices.Equal(vercmp.Sort(l), vercmp.Sort(l)) {
		t.Error("Sort answers differently")
	}
	for _, s := range l {
		if !slices.Equal(vercmp.Parts(s), vercmp.Parts(s)) {
			t.Errorf("Parts(%q) answers differently", s)
		}
	}
}
