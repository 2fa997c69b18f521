package knots

import (
	"testing"

	"metaprune/api"
)

func knot(name string, args ...api.Term) api.Term { return api.Term{Name: name, Args: args} }

// broad is f above so many of x.
func broad(many int, x api.Term) api.Term {
	t := knot("f")
	for range many {
		t.Args = append(t.Args, x)
	}
	return t
}

func none(string) (api.Term, bool) { return api.Term{}, false }

func TestNames(t *testing.T) {
	for _, c := range []struct {
		text           string
		name, variable bool
	}{
		{"", false, false},
		{"a", true, false},
		{"A", true, true},
		{"Z9z", true, true},
		{"9", false, false},
		{"abcdefgh", true, false},
		{"abcdefghi", false, false},
		{"a_", false, false},
	} {
		if IsName(c.text) != c.name || IsVariable(c.text) != c.variable {
			t.Errorf("%q: a name %v, a variable's %v", c.text, IsName(c.text), IsVariable(c.text))
		}
	}
}

func TestSame(t *testing.T) {
	a, x := knot("a"), knot("X")
	l := []api.Term{
		a, x, knot("b"), knot("f"), knot("f", a), knot("f", x), knot("f", a, a), knot("f", a, x), knot("f", knot("f", a)),
	}
	for i := range l {
		for j := range l {
			if Same(l[i], l[j]) != (i == j) {
				t.Errorf("Same(%v, %v): %v", l[i], l[j], i != j)
			}
		}
	}
	if !Same(knot("f", a), api.Term{Name: "f", Args: []api.Term{{Name: "a", Args: []api.Term{}}}}) {
		t.Error("an empty list below is none")
	}
}

func TestFillStopsAtMost(t *testing.T) {
	x := broad(9, knot("X"))
	five := func(string) (api.Term, bool) { return broad(4, knot("X")), true }
	for _, c := range []struct {
		stands func(string) (api.Term, bool)
		most   int
		ok     bool
	}{{none, 10, true}, {none, 9, false}, {none, 0, false}, {five, 46, true}, {five, 45, false}} {
		y, ok := Fill(x, c.most, c.stands)
		if ok != c.ok || !ok && !Same(y, api.Term{}) {
			t.Errorf("Fill, at most %d: %v %v", c.most, y, ok)
		}
	}
}

// A term that would be far too great isn't made first.
func TestFillEndsSoon(t *testing.T) {
	great := knot("a")
	for range 60 {
		great = broad(2, great)
	}
	if _, ok := Fill(great, 100, none); ok {
		t.Error("Fill of 2^61 knots")
	}
	if _, ok := Fill(broad(2, knot("X")), 100, func(string) (api.Term, bool) { return great, true }); ok {
		t.Error("Fill with 2^61 knots")
	}
}

func TestFitOfGreatTerms(t *testing.T) {
	x := broad(api.MaxGrown, knot("a"))
	stands, ok := Fit(knot("g", knot("X"), knot("X")), knot("g", x, Copy(x)))
	if !ok || len(stands) != 1 || !Same(stands["X"], x) {
		t.Errorf("Fit: %v", ok)
	}
}
