package knots

import (
	"fmt"
	"iter"
	"slices"
	"strings"
	"testing"

	"metaprune/api"
	"metaprune/sample"
)

var (
	knot  = sample.Knot
	broad = sample.Broad
)

func none(string) (api.Term, bool) { return api.Term{}, false }

func TestNames(t *testing.T) {
	for _, c := range []struct {
		text           string
		name, variable bool
	}{
		{"", false, false},
		{"a", true, false},
		{"A", true, true},
		{"Z9z", true, true},
		{"9", false, false},
		{"abcdefgh", true, false},
		{"abcdefghi", false, false},
		{"a_", false, false},
	} {
		if IsName(c.text) != c.name || IsVariable(c.text) != c.variable {
			t.Errorf("%q: a name %v, a variable's %v", c.text, IsName(c.text), IsVariable(c.text))
		}
	}
}

func TestSame(t *testing.T) {
	a, x := knot("a"), knot("X")
	l := []api.Term{
		a, x, knot("b"), knot("f"), knot("f", a), knot("f", x), knot("f", a, a), knot("f", a, x), knot("f", knot("f", a)),
	}
	for i := range l {
		for j := range l {
			if Same(l[i], l[j]) != (i == j) {
				t.Errorf("Same(%v, %v): %v", l[i], l[j], i != j)
			}
		}
	}
	if !Same(knot("f", a), api.Term{Name: "f", Args: []api.Term{{Name: "a", Args: []api.Term{}}}}) {
		t.Error("an empty list below is none")
	}
}

func TestFillStopsAtMost(t *testing.T) {
	x := broad(9, knot("X"))
	five := func(string) (api.Term, bool) { return broad(4, knot("X")), true }
	for _, c := range []struct {
		stands func(string) (api.Term, bool)
		most   int
		ok     bool
	}{{none, 10, true}, {none, 9, false}, {none, 0, false}, {five, 46, true}, {five, 45, false}} {
		y, ok := Fill(x, c.most, c.stands)
		if ok != c.ok || !ok && !Same(y, api.Term{}) {
			t.Errorf("Fill, at most %d: %v %v", c.most, y, ok)
		}
	}
}

// A term that would be far too great isn't made first.
func TestFillEndsSoon(t *testing.T) {
	great := knot("a")
	for range 60 {
		great = broad(2, great)
	}
	if _, ok := Fill(great, 100, none); ok {
		t.Error("Fill of 2^61 knots")
	}
	if _, ok := Fill(broad(2, knot("X")), 100, func(string) (api.Term, bool) { return great, true }); ok {
		t.Error("Fill with 2^61 knots")
	}
}

func TestLook(t *testing.T) {
	look := Look(ByName([]api.Bind{{Name: "X", Term: knot("a")}, {Name: "Y", Term: knot("h", knot("X"))}}))
	for name, want := range map[string]string{"X": "a", "Y": "h(X)"} {
		if x, ok := look(name); !ok || Text(x) != want {
			t.Errorf("%s: %s, %v", name, Text(x), ok)
		}
	}
	if x, ok := look("Z"); ok || !Same(x, api.Term{}) {
		t.Errorf("Z: %s, %v", Text(x), ok)
	}
	if y, ok := Fill(knot("f", knot("X"), knot("Y"), knot("Z")), 9, look); !ok || Text(y) != "f(a,h(X),Z)" {
		t.Errorf("Fill: %s, %v", Text(y), ok)
	}
}

func TestFitOfGreatTerms(t *testing.T) {
	x := broad(api.MaxGrown, knot("a"))
	stands, ok := Fit(knot("g", knot("X"), knot("X")), knot("g", x, Copy(x)))
	if !ok || len(stands) != 1 || !Same(stands["X"], x) {
		t.Errorf("Fit: %v", ok)
	}
}

func TestCopyIsFreshAtAllKnots(t *testing.T) {
	x := knot("f", knot("h", knot("k", knot("a"))), knot("b"))
	y := Copy(x)
	y.Args[0].Args[0].Args[0] = knot("spoilt")
	y.Args[0].Args[0] = knot("spoilt")
	y.Args[1] = knot("spoilt")
	if Text(x) != "f(h(k(a)),b)" {
		t.Errorf("written into: %s", Text(x))
	}
}

func TestText(t *testing.T) {
	for _, c := range []struct {
		t    api.Term
		want string
	}{
		{knot("a"), "a"},
		{knot("h", knot("X")), "h(X)"},
		{knot("f", knot("g", knot("a"), knot("b")), knot("c")), "f(g(a,b),c)"},
	} {
		if s := Text(c.t); s != c.want {
			t.Errorf("Text: %s, want %s", s, c.want)
		}
	}
	if s := Text(broad(api.MaxGrown, knot("a"))); len(s) != 2+2*api.MaxGrown {
		t.Errorf("Text of a great term: %d bytes", len(s))
	}
}

func TestHolds(t *testing.T) {
	x := knot("f", knot("a"), knot("h", knot("g", knot("X"), knot("Y"))))
	for name, want := range map[string]int{"X": 1, "Y": 1, "Z": 0, "XY": 0} {
		if Holds(x, name) != (want == 1) {
			t.Errorf("Holds %s: %v", name, want != 1)
		}
	}
	if !Holds(knot("X"), "X") || Holds(knot("Y"), "X") {
		t.Error("Holds of a variable")
	}
}

func TestIsOpen(t *testing.T) {
	for _, c := range []struct {
		x    api.Term
		open bool
	}{
		{knot("X"), true},
		{knot("a"), false},
		{knot("aX"), false},
		{knot("f", knot("a"), knot("h", knot("Y"))), true},
		{knot("f", knot("a"), knot("h", knot("b"))), false},
	} {
		if IsOpen(c.x) != c.open {
			t.Errorf("IsOpen of %s: %v", Text(c.x), !c.open)
		}
	}
}

func TestInOrder(t *testing.T) {
	x := knot("h", knot("a"))
	s := InOrder(map[string]api.Term{"X9": x, "X10": x, "A": knot("b")})
	if len(s) != 3 || s[0].Name != "A" || s[1].Name != "X10" || s[2].Name != "X9" {
		t.Fatalf("InOrder: %v", s)
	}
	s[1].Term.Args[0] = knot("spoilt")
	if !Same(s[2].Term, knot("h", knot("a"))) || !Same(x, s[2].Term) {
		t.Errorf("InOrder shares memory: %v", s)
	}
	if len(InOrder(nil)) != 0 {
		t.Error("InOrder of none")
	}
}

func TestNamer(t *testing.T) {
	named, other := Namer(), Namer()
	for _, c := range []struct{ text, want string }{{"X", "Z1"}, {"Z1", "Z2"}, {"X", "Z1"}, {"", "Z3"}, {"Z1", "Z2"}} {
		if name := named(c.text); name != c.want {
			t.Errorf("%q is named %s, want %s", c.text, name, c.want)
		}
	}
	if name := other("Y"); name != "Z1" {
		t.Errorf("another one begins with %s", name)
	}
}

// One namer names the variables of several terms, as of both sides of a rule.
func TestRename(t *testing.T) {
	named := Namer()
	x := Rename(knot("f", knot("Y"), knot("h", knot("X")), knot("a")), named)
	y := Rename(knot("g", knot("X"), knot("Z1")), named)
	if Text(x) != "f(Z1,h(Z2),a)" || Text(y) != "g(Z2,Z3)" {
		t.Errorf("Rename: %s, %s", Text(x), Text(y))
	}
}

// places tells the first most places that are gone through, and what is there.
func places(l iter.Seq2[[]int, api.Term], most int) []string {
	var out []string
	for place, x := range l {
		if len(out) == most {
			break
		}
		out = append(out, fmt.Sprint(place, " ", Text(x)))
	}
	return out
}

func TestDown(t *testing.T) {
	x := knot("f", knot("a"), knot("g", knot("h", knot("X")), knot("b")), knot("c"))
	for _, c := range []struct {
		from []int
		want string
	}{
		{nil, "[] f(a,g(h(X),b),c); [0] a; [1] g(h(X),b); [1 0] h(X); [1 0 0] X; [1 1] b; [2] c"},
		{[]int{0}, "[] f(a,g(h(X),b),c); [0] a; [1] g(h(X),b); [1 0] h(X); [1 0 0] X; [1 1] b; [2] c"},
		{[]int{1}, "[] f(a,g(h(X),b),c); [1] g(h(X),b); [1 0] h(X); [1 0 0] X; [1 1] b; [2] c"},
		{[]int{1, 1}, "[] f(a,g(h(X),b),c); [1] g(h(X),b); [1 1] b; [2] c"},
		{[]int{2}, "[] f(a,g(h(X),b),c); [2] c"},
	} {
		goesThrough(t, Down(x, c.from), c.want)
	}
}

func goesThrough(t *testing.T, l iter.Seq2[[]int, api.Term], want string) {
	t.Helper()
	all := places(l, 99)
	if got := strings.Join(all, "; "); got != want {
		t.Errorf("%s, want %s", got, want)
	}
	for most := range all {
		if some := places(l, most); !slices.Equal(some, all[:most]) {
			t.Errorf("left behind %d: %v, want %v", most, some, all[:most])
		}
	}
}

func TestPut(t *testing.T) {
	x := knot("f", knot("a"), knot("g", knot("h", knot("X")), knot("b")))
	for _, c := range []struct {
		place []int
		want  string
	}{
		{nil, "k(c)"},
		{[]int{0}, "f(k(c),g(h(X),b))"},
		{[]int{1, 0, 0}, "f(a,g(h(k(c)),b))"},
		{[]int{1, 1}, "f(a,g(h(X),k(c)))"},
	} {
		if y := Put(x, c.place, knot("k", knot("c"))); Text(y) != c.want {
			t.Errorf("Put at %v: %s, want %s", c.place, Text(y), c.want)
		}
		if Text(x) != "f(a,g(h(X),b))" {
			t.Fatalf("Put at %v: written into: %s", c.place, Text(x))
		}
	}
}

func TestCount(t *testing.T) {
	for _, c := range []struct {
		x          api.Term
		most, want int
	}{
		{knot("a"), 9, 1},
		{knot("a"), 0, 1},
		{broad(9, knot("a")), 10, 10},
		{broad(9, knot("a")), 9, 10},
		{broad(9, broad(9, knot("a"))), 200, 91},
		{broad(9, broad(9, knot("a"))), 20, 21},
		{sample.Endless(), 1000, 1001},
	} {
		if n := Count(c.x, c.most); n != c.want {
			t.Errorf("Count, at most %d: %d, want %d", c.most, n, c.want)
		}
	}
}

func TestFitOfVariablesTwice(t *testing.T) {
	p := knot("f", knot("X"), knot("h", knot("X")), knot("Y"))
	if stands, ok := Fit(p, knot("f", knot("a"), knot("h", knot("a")), knot("b"))); !ok || len(stands) != 2 {
		t.Errorf("Fit: %v %v", stands, ok)
	}
	for _, x := range []api.Term{
		knot("f", knot("a"), knot("h", knot("b")), knot("b")),
		knot("f", knot("a"), knot("h", knot("a"))),
		knot("f", knot("a"), knot("k", knot("a")), knot("b")),
		knot("f", knot("a"), knot("X"), knot("b")),
	} {
		if stands, ok := Fit(p, x); ok || stands != nil {
			t.Errorf("Fit of %s: %v", Text(x), stands)
		}
	}
}
