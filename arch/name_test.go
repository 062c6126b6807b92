package arch_test

import (
	"strings"
	"testing"

	"chandlery/api"
	"chandlery/arch"
)

// archs are the architectures, with their names, and whether they are a machine's.
var archs = []struct {
	a       uint8
	name    string
	machine bool
}{
	{api.NoArch, "noarch", false},
	{api.X8664, "x86_64", true},
	{api.I686, "i686", true},
	{api.AArch64, "aarch64", true},
}

// others are the numbers of a byte that are no architecture.
func others() []uint8 {
	l := []uint8{0}
	for n := 5; n < 256; n++ {
		l = append(l, uint8(n))
	}
	return l
}

// wantNone asks Parse for a text that is no architecture's name.
func wantNone(t *testing.T, s string) {
	t.Helper()
	if a, e := arch.Parse(s); a != 0 || e != api.ErrNone {
		t.Errorf("Parse(%.20q): %d, %v", s, a, e)
	}
}

// P5.1: the names of the architectures, the architectures of the names, and which are a machine's.
func TestArchitectures(t *testing.T) {
	for _, c := range archs {
		if got := arch.Name(c.a); got != c.name {
			t.Errorf("Name(%d): %q, want %q", c.a, got, c.name)
		}
		if got, e := arch.Parse(c.name); got != c.a || e != api.OK {
			t.Errorf("Parse(%q): %d, %v, want %d", c.name, got, e, c.a)
		}
		if got := arch.Machine(c.a); got != c.machine {
			t.Errorf("Machine(%d): %v", c.a, got)
		}
	}
}

// P5.1: each other number of a byte has no name, and is no machine.
func TestNoArchitecture(t *testing.T) {
	if n := len(others()) + len(archs); n != 256 {
		t.Fatal("numbers of a byte:", n)
	}
	for _, a := range others() {
		if got := arch.Name(a); got != "" {
			t.Errorf("Name(%d): %q", a, got)
		}
		if arch.Machine(a) {
			t.Errorf("Machine(%d): true", a)
		}
	}
}

// P5.1: texts that are no architecture's name give ErrNone (and the number beside that is 0).
func TestParseNone(t *testing.T) {
	for _, s := range []string{
		"", " ", "0", "1", "2", "3", "4", "5", "9", "\x00", "\x01", "\x02", "\x03", "\x04", "\xff",
		"noArch", "NoArch", "NOARCH", "no", "arch", "no arch", "no-arch", "no_arch", "any", "all", "none", "src", "nosrc",
		"X8664", "x8664", "x86-64", "x86.64", "X86_64", "x86_64_v2", "x86", "64", "amd64", "x64", "ia64", "x32", "x86_32",
		"I686", "686", "i386", "i486", "i586", "i786", "i68", "i6866", "i685", "i687", "athlon",
		"AArch64", "AARCH64", "aarch", "arch64", "aarch32", "aarch_64", "aarch64_be", "arm64", "arm", "armv7hl", "armv8l",
		"ppc64le", "s390x", "riscv64", "sparc", "noarch,i686", "noarchx86_64", "x86_64i686", "i686 x86_64", "noarch\x00i686",
		"\u0445" + "86_64", "x86\uff3f64", "\u2170" + "686", "n\u043e" + "arch", "\ufeffi686",
		strings.Repeat("i686", 50000), "noarch" + strings.Repeat("\x00", 100000), strings.Repeat(" ", 100000),
	} {
		wantNone(t, s)
	}
}

// P5.1: what differs from a name by one byte (another one, one less, one more), or by where it is cut, is no name.
func TestParseNear(t *testing.T) {
	for _, c := range archs {
		for i := range len(c.name) + 1 {
			for b := range 256 {
				wantNone(t, c.name[:i]+string([]byte{byte(b)})+c.name[i:])
				if i < len(c.name) && byte(b) != c.name[i] {
					wantNone(t, c.name[:i]+string([]byte{byte(b)})+c.name[i+1:])
				}
			}
			if i < len(c.name) {
				wantNone(t, c.name[:i])
				wantNone(t, c.name[:i]+c.name[i+1:])
				wantNone(t, c.name[i:]+c.name[:i]+c.name[i:])
			}
			if i > 0 {
				wantNone(t, c.name[i:])
			}
		}
	}
}

// P5.1: texts of up to two bytes are no names.
func TestParseShort(t *testing.T) {
	for a := range 256 {
		wantNone(t, string([]byte{byte(a)}))
		for b := range 256 {
			wantNone(t, string([]byte{byte(a), byte(b)}))
		}
	}
}

// P5.3: each architecture has a different name; Parse of Name is the architecture.
func TestNames(t *testing.T) {
	named := map[string]uint8{}
	for n := range 256 {
		a := uint8(n)
		s := arch.Name(a)
		if s == "" {
			wantNone(t, s)
			continue
		}
		if other, ok := named[s]; ok {
			t.Errorf("%d and %d are both %q", other, a, s)
		}
		named[s] = a
		if back, e := arch.Parse(s); back != a || e != api.OK {
			t.Errorf("Parse(Name(%d)): %d, %v", a, back, e)
		}
	}
	if len(named) != len(archs) {
		t.Error("architectures with a name:", named)
	}
}
