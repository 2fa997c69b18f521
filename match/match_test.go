package match

import (
	"strconv"
	"strings"
	"testing"

	"metaprune/api"
	"metaprune/sample"
	"metaprune/subst"
	"metaprune/term"
)

var (
	knot    = sample.Knot
	broad   = sample.Broad
	endless = sample.Endless
	textOf  = sample.Text
	spoil   = sample.Spoil
)

func parsed(t *testing.T, text string) api.Term {
	t.Helper()
	x, e := term.Parse(text)
	if e != api.OK {
		t.Fatalf("Parse(%q): error %d", text, e)
	}
	return x
}

func textOfBinds(s []api.Bind) string {
	var l []string
	for _, b := range s {
		l = append(l, b.Name+":"+textOf(b.Term))
	}
	return strings.Join(l, " ")
}

func TestC1Match(t *testing.T) {
	for _, c := range []struct{ p, t, want string }{
		{"a", "a", ""},
		{"f(a,h(b))", "f(a,h(b))", ""},
		{"X", "a", "X:a"},
		{"X", "X", "X:X"},
		{"X", "Y", "X:Y"},
		{"X", "f(X,Y)", "X:f(X,Y)"},
		{"f(X,X)", "f(h(a),h(a))", "X:h(a)"},
		{"f(X,X)", "f(Y,Y)", "X:Y"},
		{"f(X,Y)", "f(Y,X)", "X:Y Y:X"},
		{"f(X,Y)", "f(a,a)", "X:a Y:a"},
		{"f(Y,X)", "f(a,h(Z))", "X:h(Z) Y:a"},
		{"f(X,Y)", "f(X,h(X))", "X:X Y:h(X)"},
		{"f(Z,g(A,Z),M)", "f(b,g(h(a),b),c)", "A:h(a) M:c Z:b"},
		{"f(X9,X10,X,XB,Xa)", "f(a,b,c,d,e)", "X:c X10:b X9:a XB:d Xa:e"},
		{"f(h(X),Y,X)", "f(h(g(a,Y)),b,g(a,Y))", "X:g(a,Y) Y:b"},
	} {
		s, ok, e := Match(parsed(t, c.p), parsed(t, c.t))
		if textOfBinds(s) != c.want || !ok || e != api.OK {
			t.Errorf("Match(%s, %s): %s %v, error %d, want %s", c.p, c.t, textOfBinds(s), ok, e, c.want)
		}
	}
}

func TestC1NoMatch(t *testing.T) {
	for _, c := range []struct{ p, t string }{
		{"a", "b"},
		{"a", "X"},
		{"h(X)", "X"},
		{"h(X)", "a"},
		{"f(X,X)", "f(a,b)"},
		{"f(X,X)", "f(X,Y)"},
		{"f(X,X)", "f(a,a(b))"},
		{"f(X,g(X))", "f(g(a),g(b))"},
		{"f(X,Y)", "g(a,b)"},
		{"f(X,Y)", "f(a)"},
		{"f(X)", "f(a,b)"},
		{"f(X)", "f"},
		{"f", "f(a)"},
		{"f(a,X)", "f(X,a)"},
		{"f(X,b)", "f(a,c)"},
		{"f(X,h(h(a)))", "f(b,h(h(c)))"},
		{"f(X,X,X)", "f(a,a,b)"},
	} {
		s, ok, e := Match(parsed(t, c.p), parsed(t, c.t))
		if len(s) != 0 || ok || e != api.OK {
			t.Errorf("Match(%s, %s): %s %v, error %d", c.p, c.t, textOfBinds(s), ok, e)
		}
	}
}

func TestC1Variant(t *testing.T) {
	for _, c := range []struct {
		a, b string
		want bool
	}{
		{"a", "a", true},
		{"a", "b", false},
		{"X", "Y", true},
		{"X", "X", true},
		{"X", "a", false},
		{"f(X,Y)", "f(Y,X)", true},
		{"f(X,Y)", "f(U,V)", true},
		{"f(X,Y)", "f(Y,Z)", true},
		{"f(X,Y)", "f(X,X)", false},
		{"f(X,X)", "f(Y,Y)", true},
		{"f(X,g(Y,X))", "f(Y,g(X,Y))", true},
		{"f(X,g(Y,X))", "f(Y,g(X,X))", false},
		{"f(X,a)", "f(X,b)", false},
		{"f(X)", "f(X,Y)", false},
		{"h(X)", "h(h(X))", false},
	} {
		for _, way := range [][2]string{{c.a, c.b}, {c.b, c.a}} {
			v, e := Variant(parsed(t, way[0]), parsed(t, way[1]))
			if v != c.want || e != api.OK {
				t.Errorf("Variant(%s, %s): %v, error %d, want %v", way[0], way[1], v, e, c.want)
			}
		}
	}
}

func TestC1Encompasses(t *testing.T) {
	for _, c := range []struct {
		t, p string
		want bool
	}{
		{"a", "a", true},
		{"a", "b", false},
		{"a", "X", true},
		{"X", "Y", true},
		{"X", "a", false},
		{"f(a,h(b))", "h(X)", true},
		{"f(a,h(b))", "f(X,Y)", true},
		{"f(a,h(b))", "b", true},
		{"f(a,h(b))", "h(a)", false},
		{"f(a,h(b))", "g(X,Y)", false},
		{"f(a,h(b))", "f(X)", false},
		{"g(f(a,b),f(c,c))", "f(X,X)", true},
		{"g(f(a,b),f(c,d))", "f(X,X)", false},
		{"h(X)", "h(h(X))", false},
		{"h(h(X))", "h(X)", true},
		{"f(a,g(b,k(h(X),c)))", "h(Y)", true},
	} {
		ok, e := Encompasses(parsed(t, c.t), parsed(t, c.p))
		if ok != c.want || e != api.OK {
			t.Errorf("Encompasses(%s, %s): %v, error %d, want %v", c.t, c.p, ok, e, c.want)
		}
	}
}

// samples are all terms of some leaves, above them at most two knots that have any below.
func samples() []api.Term {
	leaves := []api.Term{knot("X"), knot("Y"), knot("Z"), knot("a"), knot("b")}
	l := leaves
	for _, x := range leaves {
		l = append(l, knot("h", x), knot("h", knot("h", x)))
		for _, y := range leaves {
			l = append(l, knot("f", x, y), knot("f", knot("h", x), y), knot("f", x, knot("f", y, x)))
		}
	}
	return l
}

func TestC1BindingsMakeTheTerm(t *testing.T) {
	for _, p := range samples() {
		for _, x := range samples() {
			s, ok, e := Match(p, x)
			if !ok || e != api.OK {
				continue
			}
			y, e := subst.Apply(s, p)
			if textOf(y) != textOf(x) || e != api.OK || subst.Check(s) != api.OK {
				t.Errorf("Match(%s, %s): %s", textOf(p), textOf(x), textOfBinds(s))
			}
			names, _ := term.Names(p)
			if len(names) != len(s) {
				t.Errorf("Match(%s, %s): %s", textOf(p), textOf(x), textOfBinds(s))
			}
		}
	}
}

// What all bindings of X, Y, Z to terms below x make of p tells whether x is a case of it.
func TestC1NoBindingsMakeTheTerm(t *testing.T) {
	for _, p := range samples() {
		for _, x := range samples() {
			_, ok, _ := Match(p, x)
			if ok != madeOf(p, x) {
				t.Errorf("Match(%s, %s): %v", textOf(p), textOf(x), ok)
			}
			back, _, _ := matches(x, p)
			v, e := Variant(p, x)
			if v != (ok && back) || e != api.OK {
				t.Errorf("Variant(%s, %s): %v, error %d", textOf(p), textOf(x), v, e)
			}
		}
	}
}

func matches(p, t api.Term) (bool, []api.Bind, api.Errno) {
	s, ok, e := Match(p, t)
	return ok, s, e
}

func madeOf(p, x api.Term) bool {
	places, _ := term.Places(x)
	var parts []api.Term
	for _, place := range places {
		part, _ := term.At(x, place)
		parts = append(parts, part)
	}
	names, _ := term.Names(p)
	var try func(s []api.Bind) bool
	try = func(s []api.Bind) bool {
		if len(s) < len(names) {
			for _, part := range parts {
				if try(append(s, api.Bind{Name: names[len(s)], Term: part})) {
					return true
				}
			}
			return false
		}
		y := p
		for i, b := range s {
			y = renamed(y, b.Name, "V"+strconv.Itoa(i))
		}
		for i, b := range s {
			y = put(y, "V"+strconv.Itoa(i), b.Term)
		}
		return textOf(y) == textOf(x)
	}
	return try(nil)
}

func renamed(t api.Term, from, to string) api.Term { return put(t, from, knot(to)) }

func put(t api.Term, name string, x api.Term) api.Term {
	if t.Name == name {
		return x
	}
	out := knot(t.Name)
	for _, a := range t.Args {
		out.Args = append(out.Args, put(a, name, x))
	}
	return out
}

func TestC1EncompassesIsSomePart(t *testing.T) {
	for _, p := range samples() {
		for _, x := range samples() {
			want := false
			places, _ := term.Places(x)
			for _, place := range places {
				part, _ := term.At(x, place)
				_, ok, _ := Match(p, part)
				want = want || ok
			}
			ok, e := Encompasses(x, p)
			if ok != want || e != api.OK {
				t.Errorf("Encompasses(%s, %s): %v, error %d", textOf(x), textOf(p), ok, e)
			}
		}
	}
}

func TestC1AllCallsCheckBoth(t *testing.T) {
	good := knot("X")
	wrong := []struct {
		t api.Term
		e api.Errno
	}{
		{knot(""), api.ErrName},
		{knot("f", knot("a"), knot("a b")), api.ErrName},
		{knot("X", knot("a")), api.ErrForm},
		{broad(api.MaxNodes, knot("a")), api.ErrLimit},
		{endless(), api.ErrLimit},
	}
	for _, w := range wrong {
		asks(t, w.t, good, w.e)
		asks(t, good, w.t, w.e)
		for _, v := range wrong {
			asks(t, w.t, v.t, w.e)
		}
	}
}

// asks: all calls tell e of the terms a and b, and nothing else.
func asks(t *testing.T, a, b api.Term, want api.Errno) {
	t.Helper()
	s, ok, e := Match(a, b)
	if len(s) != 0 || ok || e != want {
		t.Errorf("Match: %s %v, error %d, want %d", textOfBinds(s), ok, e, want)
	}
	ok, e = Variant(a, b)
	if ok || e != want {
		t.Errorf("Variant: %v, error %d, want %d", ok, e, want)
	}
	ok, e = Encompasses(a, b)
	if ok || e != want {
		t.Errorf("Encompasses: %v, error %d, want %d", ok, e, want)
	}
}

func TestC1OfMaxNodes(t *testing.T) {
	full, over := broad(api.MaxNodes-1, knot("X")), broad(api.MaxNodes-1, knot("a"))
	s, ok, e := Match(full, over)
	if textOfBinds(s) != "X:a" || !ok || e != api.OK {
		t.Errorf("Match: %s %v, error %d", textOfBinds(s), ok, e)
	}
	s, ok, e = Match(knot("X"), over)
	if len(s) != 1 || textOf(s[0].Term) != textOf(over) || !ok || e != api.OK {
		t.Errorf("Match: %s %v, error %d", textOfBinds(s), ok, e)
	}
	if ok, e := Variant(full, broad(api.MaxNodes-1, knot("Y"))); !ok || e != api.OK {
		t.Errorf("Variant: %v, error %d", ok, e)
	}
	over.Args[api.MaxNodes-2] = knot("b")
	if ok, e := Encompasses(over, knot("b")); !ok || e != api.OK {
		t.Errorf("Encompasses: %v, error %d", ok, e)
	}
}

// More variables than MaxList may stand in a term.
func TestC1OfManyVariables(t *testing.T) {
	p, x := knot("f"), knot("f")
	for i := range api.MaxNodes - 1 {
		p.Args = append(p.Args, knot("X"+strconv.Itoa(999-i)))
		x.Args = append(x.Args, knot("a"+strconv.Itoa(i)))
	}
	s, ok, e := Match(p, x)
	if len(s) != api.MaxNodes-1 || !ok || e != api.OK {
		t.Fatalf("Match: %d bindings, %v, error %d", len(s), ok, e)
	}
	for i, b := range s {
		if n := api.MaxNodes - 2 - i; b.Name != "X"+strconv.Itoa(999-n) || b.Term.Name != "a"+strconv.Itoa(n) {
			t.Fatalf("Match: %s", textOfBinds(s))
		}
	}
}

func TestZ2FreshMemory(t *testing.T) {
	p, x := parsed(t, "f(X,Y,h(X))"), parsed(t, "f(g(a),g(b),h(g(a)))")
	x.Args[1] = x.Args[0] // both in one memory
	s, _, _ := Match(p, x)
	spoil(s[0].Term)
	if textOfBinds(s) != "X:g(spoilt) Y:g(a)" {
		t.Errorf("Match shares memory: %s", textOfBinds(s))
	}
	spoil(s[1].Term)
	Variant(p, x)
	Encompasses(x, p)
	if textOf(p) != "f(X,Y,h(X))" || textOf(x) != "f(g(a),g(a),h(g(a)))" {
		t.Errorf("written into: %s, %s", textOf(p), textOf(x))
	}
}
