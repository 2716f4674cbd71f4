package names

import (
	"strings"
	"testing"

	"nosale/api"
)

// A name is 1 to MaxName bytes, a to z, or, but for the first one, 0 to 9.
func TestIs(t *testing.T) {
	for _, name := range []string{"a", "z", "cam", "a0", "a9", "z12345", "abcdefghij", "a123456789"} {
		if !Is(name) {
			t.Errorf("%q is a name", name)
		}
	}
	for _, text := range []string{"", "0", "9a", "abcdefghijk", "A", "aB", "a b", " a", "a ", "a-b", "a_b", "a.", "a\n", "a\x00", "`", "{", "a/", "a:", "\u00e4", "a\u00e4", "\xff", "a\u0661", strings.Repeat("a", 1000000)} {
		if Is(text) {
			t.Errorf("%.20q is no name", text)
		}
	}
}

// R1: of a name it comes first that it is none, then that an earlier one is the same; later ones do not matter.
func TestBell(t *testing.T) {
	several := []string{"a", "b", "", "a", "", "b0", "A", "b", "c", "c"}
	want := []api.Bell{api.Fine, api.Fine, api.Label, api.Twice, api.Label, api.Fine, api.Label, api.Twice, api.Fine, api.Twice}
	for i := range several {
		if l := Bell(i, func(i int) string { return several[i] }); l != want[i] {
			t.Errorf("%d of %q: bell %d, want %d", i, several, l, want[i])
		}
	}
}
