package evr_test

import (
	"math"
	"strings"
	"testing"

	"chandlery/api"
	"chandlery/evr"
)

const mayBytes = "abcdefghijklmnopqrstuvwxyzABCDEFGHIJKLMNOPQRSTUVWXYZ0123456789._+~^"

// wantMay asks May, in a dependency and elsewhere.
func wantMay(t *testing.T, e api.EVR, dep, elsewhere bool) {
	t.Helper()
	if got := evr.May(e, true); got != dep {
		t.Errorf("May(%+v) in a dependency: %v", e, got)
	}
	if got := evr.May(e, false); got != elsewhere {
		t.Errorf("May(%+v): %v", e, got)
	}
}

// P3.1: an Epoch is from 0 to MaxEpoch.
func TestMayEpoch(t *testing.T) {
	for _, n := range []int{0, 1, 9, 10, api.MaxEpoch - 1, api.MaxEpoch} {
		wantMay(t, api.EVR{Epoch: n, Ver: "1", Rel: "1"}, true, true)
		wantMay(t, api.EVR{Epoch: n, Ver: "1"}, true, false)
	}
	for _, n := range []int{-1, -api.MaxEpoch, math.MinInt, api.MaxEpoch + 1, 1 << 32, 1<<32 + 1, math.MaxInt} {
		wantMay(t, api.EVR{Epoch: n, Ver: "1", Rel: "1"}, false, false)
		wantMay(t, api.EVR{Epoch: n, Ver: "1"}, false, false)
	}
}

// P3.1: Ver and Rel have 1 to MaxName bytes; only Rel, and only in a dependency, may be empty.
func TestMaySizes(t *testing.T) {
	for size := range 2 * api.MaxName {
		s := strings.Repeat("1", size)
		ok := size >= 1 && size <= api.MaxName
		wantMay(t, api.EVR{Ver: s, Rel: "1"}, ok, ok)
		wantMay(t, api.EVR{Ver: "1", Rel: s}, ok || size == 0, ok)
		wantMay(t, api.EVR{Ver: s}, ok, false)
		wantMay(t, api.EVR{Ver: s, Rel: s}, ok, ok)
	}
	wantMay(t, api.EVR{}, false, false)
	wantMay(t, api.EVR{Epoch: 1}, false, false)
	wantMay(t, api.EVR{Rel: "1"}, false, false)
}

// P3.1: each byte, alone, first, within and last.
func TestMayBytes(t *testing.T) {
	for b := range 256 {
		c := string([]byte{byte(b)})
		ok := strings.Contains(mayBytes, c)
		for _, s := range []string{c, c + "1", "1" + c + "1", "1" + c, strings.Repeat("1", api.MaxName-1) + c} {
			wantMay(t, api.EVR{Ver: s, Rel: "1"}, ok, ok)
			wantMay(t, api.EVR{Ver: "1", Rel: s}, ok, ok)
			wantMay(t, api.EVR{Ver: s}, ok, false)
		}
	}
}

// P3.1: letters and digits are those of the alphabet, bytes those of the text.
func TestMayOtherLetters(t *testing.T) {
	for _, s := range []string{"\u00e9", "1\u0661", "\u03b1", "\uff11", "\u212a", "\ufffd"} {
		wantMay(t, api.EVR{Ver: s, Rel: "1"}, false, false)
		wantMay(t, api.EVR{Ver: "1", Rel: s}, false, false)
	}
}

// P3.1: bytes that separate, or that order, are a version all the same.
func TestMayWithoutParts(t *testing.T) {
	for _, s := range []string{".", "_", "+", "...", "~", "^", "~~^^", "._+~^", "a", "Z"} {
		wantMay(t, api.EVR{Ver: s, Rel: s}, true, true)
		wantMay(t, api.EVR{Ver: s}, true, false)
	}
}
