package overlaps

import (
	"strings"
	"testing"

	"metaprune/api"
	"metaprune/sample"
)

var knot = sample.Knot

func textOf(l ...api.Pair) string {
	var out []string
	for _, p := range l {
		out = append(out, sample.Text(p.Left)+">"+sample.Text(p.Right))
	}
	return strings.Join(out, " ")
}

// rules are f(h(X),Y) to g(Y,X), h(k(X)) to X, h(h(X)) to k(X), and this once more.
func rules() []api.Pair {
	x, y := knot("X"), knot("Y")
	twice := api.Pair{Left: knot("h", knot("h", x)), Right: knot("k", x)}
	return []api.Pair{
		{Left: knot("f", knot("h", x), y), Right: knot("g", y, x)},
		{Left: knot("h", knot("k", x)), Right: x},
		twice,
		twice,
	}
}

func TestPairs(t *testing.T) {
	for _, c := range []struct {
		which [2]int
		want  string
	}{
		{[2]int{0, 0}, ""},
		{[2]int{0, 1}, "g(Z1,k(Z2))>f(Z2,Z1)"},
		{[2]int{1, 0}, ""},
		{[2]int{0, 2}, "g(Z1,h(Z2))>f(k(Z2),Z1)"},
		{[2]int{2, 1}, "k(k(Z1))>h(Z1)"},
		{[2]int{1, 2}, ""},
		{[2]int{2, 2}, "k(h(Z1))>h(k(Z1))"},
		{[2]int{2, 3}, "k(Z1)>k(Z1) k(h(Z1))>h(k(Z1))"},
	} {
		l, e := Pairs(rules(), c.which)
		if textOf(l...) != c.want || e != api.OK {
			t.Errorf("%v: %s, error %d, want %s", c.which, textOf(l...), e, c.want)
		}
	}
}

func TestPairsTooGreat(t *testing.T) {
	l := []api.Pair{
		{Left: knot("k", knot("h", knot("X"))), Right: sample.Broad(20, knot("X"))},
		{Left: knot("h", sample.Broad(99, knot("b"))), Right: knot("c")},
	}
	if out, e := Pairs(l, [2]int{0, 1}); len(out) != 0 || e != api.ErrFull {
		t.Errorf("%d pairs, error %d", len(out), e)
	}
	l[0].Right = sample.Broad(19, knot("X"))
	if out, e := Pairs(l, [2]int{0, 1}); len(out) != 1 || e != api.OK {
		t.Errorf("%d pairs, error %d", len(out), e)
	}
}

func TestNamed(t *testing.T) {
	p := api.Pair{Left: knot("f", knot("Z2"), knot("X"), knot("Z2")), Right: knot("g", knot("Y"), knot("X"))}
	if q := Named(p); textOf(q) != "f(Z1,Z2,Z1)>g(Z3,Z2)" || textOf(p) != "f(Z2,X,Z2)>g(Y,X)" {
		t.Errorf("%s of %s", textOf(q), textOf(p))
	}
}
