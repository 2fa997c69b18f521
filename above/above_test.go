package above

import (
	"testing"

	"metaprune/api"
	"metaprune/sample"
)

var (
	knot  = sample.Knot
	broad = sample.Broad
	tower = sample.Tower
)

func TestTermsOfAnySize(t *testing.T) {
	row := []string{"a", "f", "h"}
	deep, flat := tower(2*api.MaxNodes, knot("X")), broad(api.MaxGrown, knot("X"))
	for _, c := range []struct {
		what         string
		a, b         api.Term
		path, weight bool
	}{
		{"one less deep", deep, deep.Args[0], true, true},
		{"one deeper", deep.Args[0], deep, false, false},
		{"the same", deep, deep, false, false},
		{"a greater symbol", tower(1, knot("X")), flat, true, false},
		{"a lesser symbol", flat, tower(1, knot("X")), false, true},
	} {
		if Path(row, c.a, c.b) != c.path {
			t.Errorf("Path, %s: %v", c.what, !c.path)
		}
		if Weight(row, c.a, c.b) != c.weight {
			t.Errorf("Weight, %s: %v", c.what, !c.weight)
		}
	}
}
