package knots

import (
	"testing"

	"metaprune/api"
)

func knot(name string, args ...api.Term) api.Term { return api.Term{Name: name, Args: args} }

// broad is f above so many of x.
func broad(many int, x api.Term) api.Term {
	t := knot("f")
	for range many {
		t.Args = append(t.Args, x)
	}
	return t
}

func none(string) (api.Term, bool) { return api.Term{}, false }

func TestNames(t *testing.T) {
	for _, c := range []struct {
		text           string
		name, variable bool
	}{
		{"", false, false},
		{"a", true, false},
		{"A", true, true},
		{"Z9z", true, true},
		{"9", false, false},
		{"abcdefgh", true, false},
		{"abcdefghi", false, false},
		{"a_", false, false},
	} {
		if IsName(c.text) != c.name || IsVariable(c.text) != c.variable {
			t.Errorf("%q: a name %v, a variable's %v", c.text, IsName(c.text), IsVariable(c.text))
		}
	}
}

func TestSame(t *testing.T) {
	a, x := knot("a"), knot("X")
	l := []api.Term{
		a, x, knot("b"), knot("f"), knot("f", a), knot("f", x), knot("f", a, a), knot("f", a, x), knot("f", knot("f", a)),
	}
	for i := range l {
		for j := range l {
			if Same(l[i], l[j]) != (i == j) {
				t.Errorf("Same(%v, %v): %v", l[i], l[j], i != j)
			}
		}
	}
	if !Same(knot("f", a), api.Term{Name: "f", Args: []api.Term{{Name: "a", Args: []api.Term{}}}}) {
		t.Error("an empty list below is none")
	}
}

func TestFillStopsAtMost(t *testing.T) {
	x := broad(9, knot("X"))
	five := func(string) (api.Term, bool) { return broad(4, knot("X")), true }
	for _, c := range []struct {
		stands func(string) (api.Term, bool)
		most   int
		ok     bool
	}{{none, 10, true}, {none, 9, false}, {none, 0, false}, {five, 46, true}, {five, 45, false}} {
		y, ok := Fill(x, c.most, c.stands)
		if ok != c.ok || !ok && !Same(y, api.Term{}) {
			t.Errorf("Fill, at most %d: %v %v", c.most, y, ok)
		}
	}
}

// A term that would be far too great isn't made first.
func TestFillEndsSoon(t *testing.T) {
	great := knot("a")
	for range 60 {
		great = broad(2, great)
	}
	if _, ok := Fill(great, 100, none); ok {
		t.Error("Fill of 2^61 knots")
	}
	if _, ok := Fill(broad(2, knot("X")), 100, func(string) (api.Term, bool) { return great, true }); ok {
		t.Error("Fill with 2^61 knots")
	}
}

func TestFitOfGreatTerms(t *testing.T) {
	x := broad(api.MaxGrown, knot("a"))
	stands, ok := Fit(knot("g", knot("X"), knot("X")), knot("g", x, Copy(x)))
	if !ok || len(stands) != 1 || !Same(stands["X"], x) {
		t.Errorf("Fit: %v", ok)
	}
}

func TestCopyIsFreshAtAllKnots(t *testing.T) {
	x := knot("f", knot("h", knot("k", knot("a"))), knot("b"))
	y := Copy(x)
	y.Args[0].Args[0].Args[0] = knot("spoilt")
	y.Args[0].Args[0] = knot("spoilt")
	y.Args[1] = knot("spoilt")
	if Text(x) != "f(h(k(a)),b)" {
		t.Errorf("written into: %s", Text(x))
	}
}

func TestText(t *testing.T) {
	for _, c := range []struct {
		t    api.Term
		want string
	}{
		{knot("a"), "a"},
		{knot("h", knot("X")), "h(X)"},
		{knot("f", knot("g", knot("a"), knot("b")), knot("c")), "f(g(a,b),c)"},
	} {
		if s := Text(c.t); s != c.want {
			t.Errorf("Text: %s, want %s", s, c.want)
		}
	}
	if s := Text(broad(api.MaxGrown, knot("a"))); len(s) != 2+2*api.MaxGrown {
		t.Errorf("Text of a great term: %d bytes", len(s))
	}
}

func TestHolds(t *testing.T) {
	x := knot("f", knot("a"), knot("h", knot("g", knot("X"), knot("Y"))))
	for name, want := range map[string]int{"X": 1, "Y": 1, "Z": 0, "XY": 0} {
		if Holds(x, name) != (want == 1) {
			t.Errorf("Holds %s: %v", name, want != 1)
		}
	}
	if !Holds(knot("X"), "X") || Holds(knot("Y"), "X") {
		t.Error("Holds of a variable")
	}
}

func TestInOrder(t *testing.T) {
	x := knot("h", knot("a"))
	s := InOrder(map[string]api.Term{"X9": x, "X10": x, "A": knot("b")})
	if len(s) != 3 || s[0].Name != "A" || s[1].Name != "X10" || s[2].Name != "X9" {
		t.Fatalf("InOrder: %v", s)
	}
	s[1].Term.Args[0] = knot("spoilt")
	if !Same(s[2].Term, knot("h", knot("a"))) || !Same(x, s[2].Term) {
		t.Errorf("InOrder shares memory: %v", s)
	}
	if len(InOrder(nil)) != 0 {
		t.Error("InOrder of none")
	}
}

func TestNamer(t *testing.T) {
	named, other := Namer(), Namer()
	for _, c := range []struct{ text, want string }{{"X", "Z1"}, {"Z1", "Z2"}, {"X", "Z1"}, {"", "Z3"}, {"Z1", "Z2"}} {
		if name := named(c.text); name != c.want {
			t.Errorf("%q is named %s, want %s", c.text, name, c.want)
		}
	}
	if name := other("Y"); name != "Z1" {
		t.Errorf("another one begins with %s", name)
	}
}

// One namer names the variables of several terms, as of both sides of a rule.
func TestRename(t *testing.T) {
	named := Namer()
	x := Rename(knot("f", knot("Y"), knot("h", knot("X")), knot("a")), named)
	y := Rename(knot("g", knot("X"), knot("Z1")), named)
	if Text(x) != "f(Z1,h(Z2),a)" || Text(y) != "g(Z2,Z3)" {
		t.Errorf("Rename: %s, %s", Text(x), Text(y))
	}
}
