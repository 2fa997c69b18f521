package steps

import (
	"testing"

	"metaprune/api"
	"metaprune/knots"
	"metaprune/sample"
)

var (
	knot  = sample.Knot
	broad = sample.Broad
)

// swap makes of a b; grow makes of g(x) f(x, x).
func swap() []api.Pair { return []api.Pair{{Left: knot("a"), Right: knot("b")}} }

func grow() []api.Pair {
	return []api.Pair{{Left: knot("g", knot("X")), Right: knot("f", knot("X"), knot("X"))}}
}

func TestTermsOfAnySize(t *testing.T) {
	great := broad(api.MaxGrown-2, knot("c"))
	great.Args = append(great.Args, knot("a"))
	want := knots.Put(great, []int{api.MaxGrown - 2}, knot("b"))
	if x, n, e := Inner(swap(), great, 1); !knots.Same(x, want) || n != 1 || e != api.OK {
		t.Errorf("Inner: %d steps, error %d", n, e)
	}
	if x, n, e := Outer(swap(), great, 1); !knots.Same(x, want) || n != 1 || e != api.OK {
		t.Errorf("Outer: %d steps, error %d", n, e)
	}
	if ok, e := Meet(swap(), great, want, 1); !ok || e != api.OK {
		t.Errorf("Meet: %v, error %d", ok, e)
	}
	if l, e := All(swap(), great); len(l) != 1 || e != api.OK || !knots.Same(l[0], want) {
		t.Errorf("All: %d, error %d", len(l), e)
	}
}

func TestTooGreat(t *testing.T) {
	for _, c := range []struct {
		below int
		e     api.Errno
	}{{api.MaxGrown/2 - 2, api.OK}, {api.MaxGrown/2 - 1, api.ErrFull}} {
		x := knot("g", broad(c.below, knot("a")))
		if _, n, e := Inner(grow(), x, 9); e != c.e || n > 0 != (e == api.OK) {
			t.Errorf("Inner, %d below: %d steps, error %d, want %d", c.below, n, e, c.e)
		}
		if _, n, e := Outer(grow(), x, 9); e != c.e || n > 0 != (e == api.OK) {
			t.Errorf("Outer, %d below: %d steps, error %d, want %d", c.below, n, e, c.e)
		}
		if l, e := All(grow(), x); e != c.e || len(l) > 0 != (e == api.OK) {
			t.Errorf("All, %d below: %d, error %d, want %d", c.below, len(l), e, c.e)
		}
	}
}

// A term that comes in with more than it may have is told so at its first step.
func TestGreatFromTheStart(t *testing.T) {
	x := broad(api.MaxGrown+9, knot("c"))
	if y, n, e := Inner(swap(), x, 9); !knots.Same(y, x) || n != 0 || e != api.OK {
		t.Errorf("Inner: %d steps, error %d", n, e)
	}
	x.Args[0] = knot("a")
	if _, n, e := Inner(swap(), x, 9); n != 0 || e != api.ErrFull {
		t.Errorf("Inner: %d steps, error %d", n, e)
	}
}

func TestInnerIsFresh(t *testing.T) {
	x := knot("f", knot("h", knot("c")), knot("g", knot("h", knot("c"))))
	y, _, e := Inner(grow(), x, 9)
	if sample.Text(y) != "f(h(c),f(h(c),h(c)))" || e != api.OK {
		t.Fatalf("%s, error %d", sample.Text(y), e)
	}
	sample.Spoil(y.Args[0])
	sample.Spoil(y.Args[1].Args[0])
	if sample.Text(y.Args[1].Args[1]) != "h(c)" || sample.Text(x) != "f(h(c),g(h(c)))" {
		t.Errorf("shares memory: %s, %s", sample.Text(y), sample.Text(x))
	}
}
