package unify

import (
	"strconv"
	"strings"
	"testing"

	"metaprune/api"
	"metaprune/sample"
	"metaprune/subst"
	"metaprune/term"
)

var (
	knot    = sample.Knot
	broad   = sample.Broad
	endless = sample.Endless
	textOf  = sample.Text
	spoil   = sample.Spoil
	count   = sample.Count
)

// row is f above so many variables, the first of that number.
func row(letter string, first, many int) api.Term {
	t := knot("f")
	for i := range many {
		t.Args = append(t.Args, knot(letter+strconv.Itoa(first+i)))
	}
	return t
}

func parsed(t *testing.T, text string) api.Term {
	t.Helper()
	x, e := term.Parse(text)
	if e != api.OK {
		t.Fatalf("Parse(%q): error %d", text, e)
	}
	return x
}

// pairs reads equations, "X=a f(Y)=f(b)".
func pairs(t *testing.T, text string) []api.Pair {
	t.Helper()
	var l []api.Pair
	for _, w := range strings.Fields(text) {
		left, right, _ := strings.Cut(w, "=")
		l = append(l, api.Pair{Left: parsed(t, left), Right: parsed(t, right)})
	}
	return l
}

func textOfBinds(s []api.Bind) string {
	var l []string
	for _, b := range s {
		l = append(l, b.Name+":"+textOf(b.Term))
	}
	return strings.Join(l, " ")
}

func textOfPairs(l []api.Pair) string {
	var out []string
	for _, p := range l {
		out = append(out, textOf(p.Left)+"="+textOf(p.Right))
	}
	return strings.Join(out, " ")
}

// same are so many equations of a and a.
func same(many int) []api.Pair {
	var l []api.Pair
	for range many {
		l = append(l, api.Pair{Left: knot("a"), Right: knot("a")})
	}
	return l
}

func TestD1EquationsThatMayBe(t *testing.T) {
	most := broad(api.MaxNodes-1, knot("a"))
	for what, l := range map[string][]api.Pair{
		"none":                   nil,
		"an empty list":          {},
		"one":                    {{Left: knot("X"), Right: knot("f", knot("a"), knot("X"))}},
		"one that doesn't hold":  {{Left: knot("a"), Right: knot("b")}},
		"MaxList":                same(api.MaxList),
		"MaxNodes on both sides": {{Left: most, Right: most}},
	} {
		if e := Check(l); e != api.OK {
			t.Errorf("Check of %s: error %d", what, e)
		}
	}
}

func TestD1EquationsThatMayNotBe(t *testing.T) {
	a, form, over := knot("a"), knot("X", knot("a")), broad(api.MaxNodes, knot("a"))
	pair := func(x, y api.Term) api.Pair { return api.Pair{Left: x, Right: y} }
	bad := same(api.MaxList + 1)
	bad[0].Left = knot("")
	for _, c := range []struct {
		what string
		l    []api.Pair
		e    api.Errno
	}{
		{"MaxList + 1", same(api.MaxList + 1), api.ErrLimit},
		{"MaxList + 1, of which the first is wrong", bad, api.ErrLimit},
		{"an empty equation", []api.Pair{{}}, api.ErrName},
		{"a wrong name on the left", []api.Pair{pair(knot("f", knot("9")), a)}, api.ErrName},
		{"a wrong name on the right", []api.Pair{pair(a, knot("f", a, knot("a b")))}, api.ErrName},
		{"a variable with one below on the left", []api.Pair{pair(form, a)}, api.ErrForm},
		{"a variable with one below on the right", []api.Pair{pair(a, form)}, api.ErrForm},
		{"MaxNodes + 1 on the left", []api.Pair{pair(over, a)}, api.ErrLimit},
		{"MaxNodes + 1 on the right", []api.Pair{pair(a, over)}, api.ErrLimit},
		{"an endless term", []api.Pair{pair(a, endless())}, api.ErrLimit},

		{"the left ahead of the right", []api.Pair{pair(form, over)}, api.ErrForm},
		{"the left ahead of the right, turned", []api.Pair{pair(over, form)}, api.ErrLimit},
		{"the first's right ahead of the second's left", []api.Pair{pair(a, form), pair(knot(""), a)}, api.ErrForm},
		{"the second one", []api.Pair{pair(a, a), pair(a, form)}, api.ErrForm},
		{"ahead of one that doesn't hold", []api.Pair{pair(a, knot("b")), pair(a, form)}, api.ErrForm},
	} {
		if e := Check(c.l); e != c.e {
			t.Errorf("Check of %s: error %d, want %d", c.what, e, c.e)
		}
		if s, e := Unify(c.l); len(s) != 0 || e != c.e {
			t.Errorf("Unify of %s: %s, error %d, want %d", c.what, textOfBinds(s), e, c.e)
		}
	}
}

func TestD1Unify(t *testing.T) {
	for _, c := range []struct{ l, want string }{
		{"", ""},
		{"a=a", ""},
		{"f(a,h(b))=f(a,h(b))", ""},
		{"X=a", "X:a"},
		{"a=X", "X:a"},
		{"f(X,b)=f(a,Y)", "X:a Y:b"},
		{"f(X,Y)=f(Y,h(Z))", "X:h(Z) Y:h(Z)"},
		{"X=h(Y) Y=a", "X:h(a) Y:a"},
		{"X=h(Y) X=h(a)", "X:h(a) Y:a"},
		{"X=h(Y) h(a)=X", "X:h(a) Y:a"},
		{"Y=a X=h(Y)", "X:h(a) Y:a"},
		{"f(X,X)=f(h(Y),h(a))", "X:h(a) Y:a"},
		{"g(X,Y,Z)=g(f(Y,Y),f(Z,Z),a)", "X:f(f(a,a),f(a,a)) Y:f(a,a) Z:a"},
		{"X10=a X9=b X=c XB=d Xa=e", "X:c X10:a X9:b XB:d Xa:e"},
		{"f=X X=f", "X:f"},
	} {
		s, e := Unify(pairs(t, c.l))
		if textOfBinds(s) != c.want || e != api.OK {
			t.Errorf("Unify of %s: %s, error %d, want %s", c.l, textOfBinds(s), e, c.want)
		}
	}
}

func TestD1BothTheSameVariable(t *testing.T) {
	for _, c := range []struct{ l, want string }{
		{"X=X", ""},
		{"f(X,h(X))=f(X,h(X))", ""},
		{"X=Y X=Y", "X:Y"},
		{"X=Y Y=X", "X:Y"},
		{"f(X,Y)=f(Y,X)", "X:Y"},
		{"X=Y Z=Y X=Z", "X:Y Z:Y"},
	} {
		s, e := Unify(pairs(t, c.l))
		if textOfBinds(s) != c.want || e != api.OK {
			t.Errorf("Unify of %s: %s, error %d, want %s", c.l, textOfBinds(s), e, c.want)
		}
	}
}

// Of two variables the left one is bound: so it is seen which equations were
// worked off first, and which of their sides is which.
func TestD1WhichVariableIsBound(t *testing.T) {
	for _, c := range []struct{ l, want string }{
		{"X=Y", "X:Y"},
		{"Y=X", "Y:X"},
		{"f(X,Y)=f(Y,Z)", "X:Z Y:Z"},
		{"f(Y,X)=f(Z,Y)", "X:Z Y:Z"},
		{"f(X,X)=f(Y,Z)", "X:Z Y:Z"},
		{"f(Y,Z)=f(X,X)", "Y:X Z:X"},
		{"X=Y X=Z", "X:Z Y:Z"},
		{"X=Z X=Y", "X:Y Z:Y"},
		{"h(X)=h(Y) Y=X", "X:Y"},
		{"h(h(X))=h(h(Y)) h(Y)=h(X)", "X:Y"},
		{"f(h(X),Y)=f(h(Y),X)", "X:Y"},
		{"f(h(Y),X)=f(h(X),Y)", "Y:X"},
		{"U=h(X) U=h(Y) Y=X", "U:h(Y) X:Y"},
		{"h(X)=U U=h(Y) Y=X", "U:h(Y) X:Y"},
		{"U=h(X) h(Y)=U Y=X", "U:h(X) Y:X"},
	} {
		s, e := Unify(pairs(t, c.l))
		if textOfBinds(s) != c.want || e != api.OK {
			t.Errorf("Unify of %s: %s, error %d, want %s", c.l, textOfBinds(s), e, c.want)
		}
	}
}

func TestD1NothingMakesThemOne(t *testing.T) {
	for _, c := range []struct {
		l string
		e api.Errno
	}{
		{"a=b", api.ErrClash},
		{"f(a)=g(a)", api.ErrClash},
		{"f(a)=f(a,b)", api.ErrClash},
		{"f(a,b)=f(a)", api.ErrClash},
		{"f(X,Y)=f(X)", api.ErrClash},
		{"f=f(X)", api.ErrClash},
		{"f(X,X)=f(a,b)", api.ErrClash},
		{"X=a Y=b X=Y", api.ErrClash},
		{"X=Y X=a Y=b", api.ErrClash},
		{"X=h(a) X=h(b)", api.ErrClash},
		{"X=h(X)", api.ErrOccurs},
		{"h(X)=X", api.ErrOccurs},
		{"X=f(a,h(g(X,b)))", api.ErrOccurs},
		{"X=h(Y) Y=X", api.ErrOccurs},
		{"X=h(Y) Y=h(X)", api.ErrOccurs},
		{"f(X,Y)=f(h(Y),h(X))", api.ErrOccurs},
		{"f(X,X)=f(Y,h(Y))", api.ErrOccurs},
		{"X=h(Y) Z=h(X) Y=Z", api.ErrOccurs},
	} {
		s, e := Unify(pairs(t, c.l))
		if len(s) != 0 || e != c.e {
			t.Errorf("Unify of %s: %s, error %d, want %d", c.l, textOfBinds(s), e, c.e)
		}
	}
}

func TestD1TheFirstThatIsWrong(t *testing.T) {
	for _, c := range []struct {
		l string
		e api.Errno
	}{
		{"a=b X=h(X)", api.ErrClash},
		{"X=h(X) a=b", api.ErrOccurs},
		{"f(a,X)=f(b,h(X))", api.ErrClash},
		{"f(X,a)=f(h(X),b)", api.ErrOccurs},
		{"f(X,a)=g(h(X),b)", api.ErrClash},
		{"f(X,a)=f(h(X))", api.ErrClash},
		{"h(X)=h(h(X)) a=b", api.ErrOccurs},
		{"h(h(X))=h(h(h(X))) a=b", api.ErrOccurs},
		{"f(h(X),a)=f(h(h(X)),b)", api.ErrOccurs},
		{"f(h(a),X)=f(h(b),h(X))", api.ErrClash},
		{"X=f(Y,a) X=f(h(Y),b)", api.ErrOccurs},
	} {
		s, e := Unify(pairs(t, c.l))
		if len(s) != 0 || e != c.e {
			t.Errorf("Unify of %s: %s, error %d, want %d", c.l, textOfBinds(s), e, c.e)
		}
	}
}

// grows has X at 19 places: with a term of 100 knots there it has MaxGrown and more knots.
func grows(more int) api.Term {
	t := broad(19, knot("X"))
	for range api.MaxGrown - 1901 + more {
		t.Args = append(t.Args, knot("a"))
	}
	return t
}

func TestD1EquationsGrow(t *testing.T) {
	hundred := broad(99, knot("b"))
	first := api.Pair{Left: knot("X"), Right: hundred}
	for _, c := range []struct {
		what string
		l    []api.Pair
		e    api.Errno
	}{
		{"the left one, MaxGrown", []api.Pair{first, {Left: grows(0), Right: knot("Y")}}, api.OK},
		{"the right one, MaxGrown", []api.Pair{first, {Left: knot("Y"), Right: grows(0)}}, api.OK},
		{"both, MaxGrown", []api.Pair{first, {Left: grows(0), Right: grows(0)}}, api.OK},
		{"the left one, one more", []api.Pair{first, {Left: grows(1), Right: knot("Y")}}, api.ErrFull},
		{"the right one, one more", []api.Pair{first, {Left: knot("Y"), Right: grows(1)}}, api.ErrFull},
		{"both, one more", []api.Pair{first, {Left: grows(1), Right: grows(1)}}, api.ErrFull},
		{"the left one, then a clash", []api.Pair{first, {Left: grows(1), Right: knot("a")}}, api.ErrFull},
		{"the right one, then a clash", []api.Pair{first, {Left: knot("a"), Right: grows(1)}}, api.ErrFull},
		{"MaxGrown, and a clash", []api.Pair{first, {Left: grows(0), Right: knot("a")}}, api.ErrClash},
		{"a variable within itself", []api.Pair{first, {Left: knot("Y"), Right: knot("g", knot("Y"), grows(0))}}, api.ErrFull},
		{"behind a clash", []api.Pair{first, {Left: knot("a"), Right: knot("b")}, {Left: grows(1), Right: knot("Y")}}, api.ErrClash},
		{"below, behind a clash", []api.Pair{{Left: knot("f", knot("X"), knot("a"), grows(1)), Right: knot("f", hundred, knot("b"), knot("Y"))}}, api.ErrClash},
		{"below", []api.Pair{{Left: knot("f", knot("X"), grows(1)), Right: knot("f", hundred, knot("Y"))}}, api.ErrFull},
		{"below, MaxGrown", []api.Pair{{Left: knot("f", knot("X"), grows(0)), Right: knot("f", hundred, knot("Y"))}}, api.OK},
	} {
		s, e := Unify(c.l)
		if e != c.e || (e == api.OK) != (len(s) > 0) {
			t.Errorf("%s: %d bindings, error %d, want %d", c.what, len(s), e, c.e)
		}
		for _, b := range s {
			if b.Name == "Y" && count(b.Term) != api.MaxGrown {
				t.Errorf("%s: Y stands for %d knots", c.what, count(b.Term))
			}
		}
	}
}

func TestD1BindingsGrow(t *testing.T) {
	hundred := broad(99, knot("b"))
	put := api.Pair{Left: knot("X"), Right: hundred}
	clash := api.Pair{Left: knot("a"), Right: knot("b")}
	within := api.Pair{Left: knot("Z"), Right: knot("h", knot("Z"))}
	y := func(more int) api.Pair { return api.Pair{Left: knot("Y"), Right: grows(more)} }
	for _, c := range []struct {
		what string
		l    []api.Pair
		e    api.Errno
	}{
		{"MaxGrown", []api.Pair{y(0), put}, api.OK},
		{"one more", []api.Pair{y(1), put}, api.ErrFull},
		{"one more, the other way round", []api.Pair{y(1), {Left: hundred, Right: knot("X")}}, api.ErrFull},
		{"one more, by two bindings", []api.Pair{y(1), {Left: knot("X"), Right: knot("U")}, {Left: knot("U"), Right: hundred}}, api.ErrFull},
		{"the last one of several", []api.Pair{{Left: knot("A"), Right: knot("h", knot("X"))}, y(1), put}, api.ErrFull},
		{"one more, then a clash", []api.Pair{y(1), put, clash}, api.ErrFull},
		{"one more, then one within itself", []api.Pair{y(1), put, within}, api.ErrFull},
		{"one more, then a clash below", []api.Pair{y(1), {Left: knot("f", knot("X"), knot("a")), Right: knot("f", hundred, knot("b"))}}, api.ErrFull},
		{"one more, then what is put into an equation", []api.Pair{y(1), put, {Left: grows(1), Right: knot("a")}}, api.ErrFull},
		{"MaxGrown, then a clash", []api.Pair{y(0), put, clash}, api.ErrClash},
		{"MaxGrown, then one within itself", []api.Pair{y(0), put, within}, api.ErrOccurs},
		{"a clash, then one more", []api.Pair{y(1), clash, put}, api.ErrClash},
		{"one within itself, then one more", []api.Pair{y(1), within, put}, api.ErrOccurs},
		{"what is to be put has itself within", []api.Pair{y(1), {Left: knot("X"), Right: knot("g", knot("X"), hundred)}}, api.ErrOccurs},
	} {
		s, e := Unify(c.l)
		if e != c.e || (e == api.OK) != (len(s) > 0) {
			t.Errorf("%s: %d bindings, error %d, want %d", c.what, len(s), e, c.e)
		}
		if e == api.OK && (textOfBinds(s[:1]) != "X:"+textOf(hundred) || s[1].Name != "Y" || count(s[1].Term) != api.MaxGrown) {
			t.Errorf("%s: %s", c.what, textOfBinds(s))
		}
	}
}

// doubles are so many equations that double what the first variable stands for.
func doubles(many int) []api.Pair {
	var l []api.Pair
	for i := range many {
		x := knot("V" + strconv.Itoa(i+1))
		l = append(l, api.Pair{Left: knot("V" + strconv.Itoa(i)), Right: knot("f", x, x)})
	}
	return l
}

func TestD1Doubles(t *testing.T) {
	for many, want := range map[int]api.Errno{9: api.OK, 10: api.ErrFull, api.MaxList: api.ErrFull} {
		s, e := Unify(doubles(many))
		if e != want || e == api.OK && (len(s) != many || count(s[0].Term) != 1<<(many+1)-1) {
			t.Errorf("%d: %d bindings, error %d, want %d", many, len(s), e, want)
		}
		turned := doubles(many)
		for i := range many / 2 {
			turned[i], turned[many-1-i] = turned[many-1-i], turned[i]
		}
		r, e := Unify(turned)
		if e != want || textOfBinds(r) != textOfBinds(s) {
			t.Errorf("%d, turned: %d bindings, error %d, want %d", many, len(r), e, want)
		}
	}
}

// What comes out makes both sides of all equations the same, and so does each
// other that is put behind it: done twice it does what it does once.
func TestD1BindingsMakeThemOne(t *testing.T) {
	for l := range drawn(2000) {
		s, e := Unify(l)
		if e != api.OK {
			continue
		}
		stays, _, e := subst.Kind(s)
		if !stays || e != api.OK {
			t.Fatalf("Unify of %s: %s stays %v, error %d", textOfPairs(l), textOfBinds(s), stays, e)
		}
		for _, p := range l {
			x, e := subst.Apply(s, p.Left)
			y, f := subst.Apply(s, p.Right)
			if textOf(x) != textOf(y) || e != api.OK || f != api.OK {
				t.Fatalf("Unify of %s: %s makes %s of %s and %s of %s", textOfPairs(l), textOfBinds(s), textOf(x), textOf(p.Left), textOf(y), textOf(p.Right))
			}
		}
	}
}

// Much stands for many variables, and all of it changes again and again: the
// call ends before long, though.
func TestZ1UnifyEndsSoon(t *testing.T) {
	var l []api.Pair
	for i := range 20 {
		l = append(l, api.Pair{Left: row("X", i*199, 199), Right: broad(199, knot("A"))})
	}
	l = append(l, api.Pair{Left: knot("A"), Right: row("C", 0, 190)})
	for i := range 10 {
		right := knot("f")
		for j := range 19 {
			right.Args = append(right.Args, row("D", (i*19+j)*8, 8))
		}
		l = append(l, api.Pair{Left: row("C", i*19, 19), Right: right})
	}
	for i := range 8 {
		l = append(l, api.Pair{Left: row("D", i*190, 190), Right: broad(190, knot("a"))})
	}
	s, e := Unify(l)
	if len(s) != 20*199+1+190+8*190 || e != api.OK || count(s[0].Term) != 1+190*9 {
		t.Errorf("%d bindings, error %d", len(s), e)
	}
}

// A chain of variables, each bound to the next one, and one on both sides of a
// deep term: neither is gone along again and again.
func TestZ1UnifyOfChainsEndsSoon(t *testing.T) {
	var l []api.Pair
	for i := range 20 {
		l = append(l, api.Pair{Left: row("X", i*199, 199), Right: row("X", i*199+1, 199)})
	}
	l = append(l, doubles(9)...)
	for range 10 {
		l = append(l, api.Pair{Left: broad(199, knot("X0")), Right: broad(199, knot("V0"))})
	}
	l = append(l, api.Pair{Left: knot("V9"), Right: knot("a")})
	s, e := Unify(l)
	if len(s) != 0 || e != api.ErrFull {
		t.Errorf("%d bindings, error %d", len(s), e)
	}
	l[len(l)-1] = api.Pair{Left: knot("X0"), Right: knot("a")}
	for i := 29; i < 39; i++ {
		l[i] = api.Pair{Left: knot("f", knot("X0"), knot("V1")), Right: knot("f", knot("V1"), knot("V1"))}
	}
	s, e = Unify(l)
	if len(s) != 0 || e != api.ErrClash {
		t.Errorf("%d bindings, error %d", len(s), e)
	}
}

func TestZ2FreshMemory(t *testing.T) {
	x := parsed(t, "g(a,U)")
	l := []api.Pair{
		{Left: knot("X"), Right: x},
		{Left: knot("Y"), Right: x},
		{Left: knot("h", knot("Z")), Right: knot("h", x)},
		{Left: knot("W"), Right: knot("X")},
	}
	was := textOfPairs(l)
	s, e := Unify(l)
	want := "W:g(a,U) X:g(a,U) Y:g(a,U) Z:g(a,U)"
	if textOfBinds(s) != want || e != api.OK {
		t.Fatalf("Unify: %s, error %d", textOfBinds(s), e)
	}
	for i := range s {
		spoil(s[i].Term)
		s[i].Name = "Spoilt"
		for _, b := range s[i+1:] {
			if textOf(b.Term) != "g(a,U)" {
				t.Errorf("Unify: two terms share memory: %s", textOfBinds(s))
			}
		}
	}
	if textOfPairs(l) != was {
		t.Errorf("written into: %s", textOfPairs(l))
	}
	s, _ = Unify(l)
	spoil(x)
	if textOfBinds(s) != want {
		t.Errorf("Unify shares memory with what it was given: %s", textOfBinds(s))
	}
}

func TestZ2NothingBeyond(t *testing.T) {
	l := pairs(t, "X=a a=b")
	s, e := Unify(l[:1])
	if textOfBinds(s) != "X:a" || e != api.OK {
		t.Errorf("Unify: %s, error %d", textOfBinds(s), e)
	}
	if e := Check([]api.Pair{{}}[:0]); e != api.OK {
		t.Errorf("Check: error %d", e)
	}
	x := broad(3, knot("a"))
	x.Args = x.Args[:2]
	s, e = Unify([]api.Pair{{Left: x, Right: broad(2, knot("X"))}})
	if textOfBinds(s) != "X:a" || e != api.OK {
		t.Errorf("Unify: %s, error %d", textOfBinds(s), e)
	}
}
