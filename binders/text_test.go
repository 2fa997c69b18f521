package binders

import (
	"strings"
	"testing"

	"metaprune/api"
	"metaprune/sample"
)

func TestText(t *testing.T) {
	for want, x := range map[string]api.Lam{
		"c7":                 konst(7),
		"y":                  bound(0),
		"z":                  bound(1),
		`\x0.x0 y z`:         binder(applied(bound(0), bound(1), bound(2))),
		`\x0.\x1.x1 (x0 x1)`: binder(binder(applied(bound(0), applied(bound(1), bound(0))))),
		`(\x0.x0) (\x0.y)`:   applied(binder(bound(0)), binder(bound(1))),
	} {
		if s := Text(x, []string{"z", "y"}); s != want {
			t.Errorf("Text of %s: %q, want %q", textOf(x), s, want)
		}
	}
}

// A term that came out may have more knots than one that is given.
func TestTextOfAGreatTerm(t *testing.T) {
	want := strings.Repeat("c1 ", api.MaxNodes) + "c1"
	if s := Text(sample.Row(api.MaxNodes+1, konst(1)), nil); s != want {
		t.Errorf("Text: %.60q, %d bytes, want %d", s, len(s), len(want))
	}
}
