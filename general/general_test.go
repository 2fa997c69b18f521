package general

import (
	"slices"
	"strconv"
	"strings"
	"testing"

	"metaprune/api"
	"metaprune/match"
	"metaprune/sample"
	"metaprune/subst"
	"metaprune/term"
)

var (
	knot    = sample.Knot
	broad   = sample.Broad
	endless = sample.Endless
	textOf  = sample.Text
	spoil   = sample.Spoil
)

func parsed(t *testing.T, text string) api.Term {
	t.Helper()
	x, e := term.Parse(text)
	if e != api.OK {
		t.Fatalf("Parse(%q): error %d", text, e)
	}
	return x
}

func textOfBinds(s []api.Bind) string {
	var l []string
	for _, b := range s {
		l = append(l, b.Name+":"+textOf(b.Term))
	}
	return strings.Join(l, " ")
}

func isNone(t api.Term) bool { return t.Name == "" && len(t.Args) == 0 }

func TestE1General(t *testing.T) {
	for _, c := range []struct{ a, b, want, left, right string }{
		{"a", "a", "a", "", ""},
		{"f(a,h(b))", "f(a,h(b))", "f(a,h(b))", "", ""},
		{"a", "b", "Z1", "Z1:a", "Z1:b"},
		{"f(a,c)", "f(b,c)", "f(Z1,c)", "Z1:a", "Z1:b"},
		{"f(a,h(a))", "f(b,h(b))", "f(Z1,h(Z1))", "Z1:a", "Z1:b"},
		{"f(a,g(a,b))", "f(b,g(b,a))", "f(Z1,g(Z1,Z2))", "Z1:a Z2:b", "Z1:b Z2:a"},
		{"h(f(a,b))", "h(g(a,b))", "h(Z1)", "Z1:f(a,b)", "Z1:g(a,b)"},
		{"f(h(a),h(a))", "f(h(b),k(b))", "f(h(Z1),Z2)", "Z1:a Z2:h(a)", "Z1:b Z2:k(b)"},
		{"f(a,a,b)", "f(b,a,a)", "f(Z1,a,Z2)", "Z1:a Z2:b", "Z1:b Z2:a"},
		{"g(h(a),k(h(a)))", "g(b,k(b))", "g(Z1,k(Z1))", "Z1:h(a)", "Z1:b"},
		{"g(f(a,b),c,f(a,b))", "g(c,f(a,b),c)", "g(Z1,Z2,Z1)", "Z1:f(a,b) Z2:c", "Z1:c Z2:f(a,b)"},
	} {
		x, left, right, e := General(parsed(t, c.a), parsed(t, c.b))
		if textOf(x) != c.want || textOfBinds(left) != c.left || textOfBinds(right) != c.right || e != api.OK {
			t.Errorf("General(%s, %s): %s; %s; %s, error %d, want %s; %s; %s", c.a, c.b, textOf(x), textOfBinds(left), textOfBinds(right), e, c.want, c.left, c.right)
		}
	}
}

func TestE1NotTheSameSymbol(t *testing.T) {
	for _, c := range []struct{ a, b string }{
		{"f(a)", "g(a)"},
		{"f(a)", "f(a,b)"},
		{"f(a,b)", "f(a)"},
		{"f", "f(a)"},
		{"f(a,b)", "f(a,b,c)"},
		{"X", "a"},
		{"a", "X"},
		{"h(X)", "X"},
		{"X", "Y"},
		{"X", "X"},
		{"Z1", "Z1"},
		{"Z2", "f(Z1,Z1)"},
	} {
		x, left, right, e := General(parsed(t, c.a), parsed(t, c.b))
		if textOf(x) != "Z1" || textOfBinds(left) != "Z1:"+c.a || textOfBinds(right) != "Z1:"+c.b || e != api.OK {
			t.Errorf("General(%s, %s): %s; %s; %s, error %d", c.a, c.b, textOf(x), textOfBinds(left), textOfBinds(right), e)
		}
	}
}

// Variables of the terms have nothing to do with the new ones, whatever their names.
func TestE1GeneralOfVariables(t *testing.T) {
	for _, c := range []struct{ a, b, want, left, right string }{
		{"f(X,Y)", "f(X,Y)", "f(Z1,Z2)", "Z1:X Z2:Y", "Z1:X Z2:Y"},
		{"f(X,X)", "f(X,X)", "f(Z1,Z1)", "Z1:X", "Z1:X"},
		{"f(X,Y)", "f(Y,X)", "f(Z1,Z2)", "Z1:X Z2:Y", "Z1:Y Z2:X"},
		{"f(X,X)", "f(X,Y)", "f(Z1,Z2)", "Z1:X Z2:X", "Z1:X Z2:Y"},
		{"f(Z2,Z1,Z2)", "f(Z1,Z2,Z1)", "f(Z1,Z2,Z1)", "Z1:Z2 Z2:Z1", "Z1:Z1 Z2:Z2"},
		{"f(h(Z1),Z1)", "f(h(a),b)", "f(h(Z1),Z2)", "Z1:Z1 Z2:Z1", "Z1:a Z2:b"},
	} {
		x, left, right, e := General(parsed(t, c.a), parsed(t, c.b))
		if textOf(x) != c.want || textOfBinds(left) != c.left || textOfBinds(right) != c.right || e != api.OK {
			t.Errorf("General(%s, %s): %s; %s; %s, error %d, want %s; %s; %s", c.a, c.b, textOf(x), textOfBinds(left), textOfBinds(right), e, c.want, c.left, c.right)
		}
	}
}

// many is f above the greatest number of terms, ever others, that begin with the letter.
func many(letter string) api.Term {
	t := knot("f")
	for i := range api.MaxNodes - 1 {
		t.Args = append(t.Args, knot(letter+strconv.Itoa(i)))
	}
	return t
}

func TestE1OfMaxNodes(t *testing.T) {
	x, left, right, e := General(many("a"), many("B"))
	if len(x.Args) != api.MaxNodes-1 || len(left) != api.MaxNodes-1 || len(right) != api.MaxNodes-1 || e != api.OK {
		t.Fatalf("General: %s; %d; %d, error %d", textOf(x), len(left), len(right), e)
	}
	for i, a := range x.Args {
		if a.Name != "Z"+strconv.Itoa(i+1) {
			t.Fatalf("General: %s", textOf(x))
		}
	}
	if subst.Check(left[:api.MaxList]) != api.OK || left[0].Name != "Z1" || left[1].Name != "Z10" || left[2].Name != "Z100" || right[len(right)-1].Name != "Z99" {
		t.Errorf("not in order: %s", textOfBinds(left))
	}
	for i := range left {
		n := strings.TrimPrefix(left[i].Name, "Z")
		k, _ := strconv.Atoi(n)
		k--
		if left[i].Term.Name != "a"+strconv.Itoa(k) || right[i].Name != left[i].Name || right[i].Term.Name != "B"+strconv.Itoa(k) {
			t.Fatalf("General: %s; %s", textOfBinds(left), textOfBinds(right))
		}
	}
	c, e := Canon(many("V"))
	if textOf(c) != textOf(x) || e != api.OK {
		t.Errorf("Canon: %s, error %d", textOf(c), e)
	}
}

func TestE1Canon(t *testing.T) {
	for _, c := range []struct{ t, want string }{
		{"a", "a"},
		{"f(a,h(b))", "f(a,h(b))"},
		{"X", "Z1"},
		{"Z1", "Z1"},
		{"Z2", "Z1"},
		{"f(X,Y)", "f(Z1,Z2)"},
		{"f(Y,X)", "f(Z1,Z2)"},
		{"f(Y,g(X,Y))", "f(Z1,g(Z2,Z1))"},
		{"f(Z2,Z1,Z2)", "f(Z1,Z2,Z1)"},
		{"f(h(X),Z1,X)", "f(h(Z1),Z2,Z1)"},
		{"f(A,B,C,D,E,F,G,H,I,J,A)", "f(Z1,Z2,Z3,Z4,Z5,Z6,Z7,Z8,Z9,Z10,Z1)"},
		{"g(k(f(U,a),V),W,z1)", "g(k(f(Z1,a),Z2),Z3,z1)"},
	} {
		x, e := Canon(parsed(t, c.t))
		if textOf(x) != c.want || e != api.OK {
			t.Errorf("Canon(%s): %s, error %d, want %s", c.t, textOf(x), e, c.want)
		}
	}
}

func TestE1AllCallsCheck(t *testing.T) {
	good := knot("X")
	wrong := []struct {
		t api.Term
		e api.Errno
	}{
		{knot(""), api.ErrName},
		{knot("f", knot("a"), knot("a b")), api.ErrName},
		{knot("X", knot("a")), api.ErrForm},
		{broad(api.MaxNodes, knot("a")), api.ErrLimit},
		{endless(), api.ErrLimit},
	}
	for _, w := range wrong {
		refused(t, w.t, good, w.e)
		refused(t, good, w.t, w.e)
		for _, v := range wrong {
			refused(t, w.t, v.t, w.e)
		}
		if x, e := Canon(w.t); !isNone(x) || e != w.e {
			t.Errorf("Canon: %s, error %d, want %d", textOf(x), e, w.e)
		}
	}
}

func refused(t *testing.T, a, b api.Term, want api.Errno) {
	t.Helper()
	x, left, right, e := General(a, b)
	if !isNone(x) || len(left) != 0 || len(right) != 0 || e != want {
		t.Errorf("General: %s; %s; %s, error %d, want %d", textOf(x), textOfBinds(left), textOfBinds(right), e, want)
	}
}

// samples are all terms of some leaves, above them at most two knots that have any below.
func samples() []api.Term {
	leaves := []api.Term{knot("X"), knot("Y"), knot("a"), knot("b")}
	l := slices.Clone(leaves)
	for _, x := range leaves {
		l = append(l, knot("h", x), knot("h", knot("h", x)))
		for _, y := range leaves {
			l = append(l, knot("f", x, y), knot("f", knot("h", x), y), knot("f", x, knot("f", y, x)))
		}
	}
	return l
}

func TestE1BothAreCases(t *testing.T) {
	for _, a := range samples() {
		for _, b := range samples() {
			x, left, right, e := General(a, b)
			if e != api.OK {
				t.Fatalf("General(%s, %s): error %d", textOf(a), textOf(b), e)
			}
			y, e := subst.Apply(left, x)
			z, f := subst.Apply(right, x)
			if textOf(y) != textOf(a) || textOf(z) != textOf(b) || e != api.OK || f != api.OK {
				t.Errorf("General(%s, %s): %s; %s; %s", textOf(a), textOf(b), textOf(x), textOfBinds(left), textOfBinds(right))
			}
			names, _ := term.Names(x)
			if len(left) != len(names) || len(right) != len(names) {
				t.Errorf("General(%s, %s): %s; %s; %s", textOf(a), textOf(b), textOf(x), textOfBinds(left), textOfBinds(right))
			}
			if c, _ := Canon(x); textOf(c) != textOf(x) {
				t.Errorf("General(%s, %s): %s: not named as they come", textOf(a), textOf(b), textOf(x))
			}
		}
	}
}

// Whatever both are cases of, so is what General tells: nothing says more.
func TestE1NothingSaysMore(t *testing.T) {
	isCase := func(x, p api.Term) bool {
		_, ok, _ := match.Match(p, x)
		return ok
	}
	l := samples()
	for _, a := range l {
		for _, b := range l {
			x, _, _, _ := General(a, b)
			for _, p := range l {
				if isCase(a, p) && isCase(b, p) && !isCase(x, p) {
					t.Fatalf("General(%s, %s): %s, but both are cases of %s", textOf(a), textOf(b), textOf(x), textOf(p))
				}
			}
		}
	}
}

func TestE1CanonIsTheSameOfVariants(t *testing.T) {
	l := samples()
	for _, a := range l {
		x, _ := Canon(a)
		if v, _ := match.Variant(x, a); !v {
			t.Errorf("Canon(%s): %s", textOf(a), textOf(x))
		}
		for _, b := range l {
			y, _ := Canon(b)
			if v, _ := match.Variant(a, b); v != (textOf(x) == textOf(y)) {
				t.Errorf("Canon(%s): %s; Canon(%s): %s", textOf(a), textOf(x), textOf(b), textOf(y))
			}
		}
	}
}

func TestZ2GeneralIsFreshMemory(t *testing.T) {
	p := parsed(t, "g(a,Y)")
	a, b := knot("f", p, p, knot("h", p)), knot("f", knot("b"), p, knot("h", knot("c")))
	wasA, wasB := textOf(a), textOf(b)
	x, left, right, e := General(a, b)
	want := "f(Z1,g(a,Z2),h(Z3)); Z1:g(a,Y) Z2:Y Z3:g(a,Y); Z1:b Z2:Y Z3:c"
	if all := textOf(x) + "; " + textOfBinds(left) + "; " + textOfBinds(right); all != want || e != api.OK {
		t.Fatalf("General: %s, error %d", all, e)
	}
	spoil(left[0].Term)
	if textOfBinds(left[1:]) != "Z2:Y Z3:g(a,Y)" {
		t.Errorf("General: two terms share memory: %s", textOfBinds(left))
	}
	spoil(left[2].Term)
	spoil(x)
	if textOf(a) != wasA || textOf(b) != wasB {
		t.Errorf("written into: %s, %s", textOf(a), textOf(b))
	}
	left[0].Name = "Spoilt"
	if textOfBinds(right) != "Z1:b Z2:Y Z3:c" {
		t.Errorf("General: two lists share memory: %s", textOfBinds(right))
	}
	x, left, _, _ = General(a, b)
	spoil(a)
	spoil(b)
	if textOf(x) != "f(Z1,g(a,Z2),h(Z3))" || textOfBinds(left) != "Z1:g(a,Y) Z2:Y Z3:g(a,Y)" {
		t.Errorf("General shares memory with what it was given: %s; %s", textOf(x), textOfBinds(left))
	}
}

// Both sides may be one term: what stands for a variable in it is told twice, then.
func TestZ2GeneralOfOneTerm(t *testing.T) {
	a, b := parsed(t, "f(g(a),h(b))"), parsed(t, "f(h(b),g(a))")
	b.Args[0], b.Args[1] = a.Args[1], a.Args[0]
	_, left, right, _ := General(a, b)
	spoil(left[0].Term)
	spoil(left[1].Term)
	if textOfBinds(right) != "Z1:h(b) Z2:g(a)" || textOf(a) != "f(g(a),h(b))" {
		t.Errorf("General: two terms share memory: %s; %s", textOfBinds(left), textOfBinds(right))
	}
}

func TestZ2CanonIsFreshMemory(t *testing.T) {
	a := parsed(t, "f(X,h(g(a,Y)))")
	x, _ := Canon(a)
	spoil(x)
	if textOf(a) != "f(X,h(g(a,Y)))" {
		t.Errorf("written into: %s", textOf(a))
	}
	x, _ = Canon(a)
	spoil(a)
	if textOf(x) != "f(Z1,h(g(a,Z2)))" {
		t.Errorf("Canon shares memory: %s", textOf(x))
	}
	ground := parsed(t, "f(a,h(b))")
	x, _ = Canon(ground)
	spoil(x)
	if textOf(ground) != "f(a,h(b))" {
		t.Errorf("written into: %s", textOf(ground))
	}
}

func TestZ2NothingBeyond(t *testing.T) {
	x := broad(3, knot("a"))
	x.Args = x.Args[:2]
	y, left, right, e := General(x, broad(2, knot("b")))
	if textOf(y) != "f(Z1,Z1)" || textOfBinds(left) != "Z1:a" || textOfBinds(right) != "Z1:b" || e != api.OK {
		t.Errorf("General: %s; %s; %s, error %d", textOf(y), textOfBinds(left), textOfBinds(right), e)
	}
	if y, e := Canon(x); textOf(y) != "f(a,a)" || e != api.OK {
		t.Errorf("Canon: %s, error %d", textOf(y), e)
	}
}
