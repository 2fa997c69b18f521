package arrows

import (
	"strings"
	"testing"

	"metaprune/api"
	"metaprune/sample"
)

func TestText(t *testing.T) {
	a, b, arrow := sample.Base(0), sample.Base(12), sample.Arrow
	for want, x := range map[string]api.Type{
		"a0":                      a,
		"a12":                     b,
		"a0>a12":                  arrow(a, b),
		"a0>a12>a0":               arrow(a, arrow(b, a)),
		"(a0>a12)>a0":             arrow(arrow(a, b), a),
		"((a0>a0)>a12)>a12>a0":    arrow(arrow(arrow(a, a), b), arrow(b, a)),
		"(a0>a12>a0)>(a12>a0)>a0": arrow(arrow(a, arrow(b, a)), arrow(arrow(b, a), a)),
	} {
		if s := Text(x); s != want {
			t.Errorf("Text: %q, want %q", s, want)
		}
	}
}

// A type that came out may have more knots than one that is given.
func TestTextOfAGreatType(t *testing.T) {
	want := strings.Repeat("a7>", api.MaxNodes) + "a7"
	if s := Text(sample.TypeRow(api.MaxNodes+1, sample.Base(7))); s != want {
		t.Errorf("Text: %.60q, %d bytes, want %d", s, len(s), len(want))
	}
}
