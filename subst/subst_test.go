package subst

import (
	"slices"
	"strconv"
	"strings"
	"testing"

	"metaprune/api"
	"metaprune/sample"
	"metaprune/term"
)

var (
	knot    = sample.Knot
	broad   = sample.Broad
	endless = sample.Endless
	textOf  = sample.Text
	spoil   = sample.Spoil
	count   = sample.Count
)

func parsed(t *testing.T, text string) api.Term {
	t.Helper()
	x, e := term.Parse(text)
	if e != api.OK {
		t.Fatalf("Parse(%q): error %d", text, e)
	}
	return x
}

// binds reads bindings, "X:a Y:h(X)", without asking whether they may be.
func binds(t *testing.T, text string) []api.Bind {
	t.Helper()
	var s []api.Bind
	for _, w := range strings.Fields(text) {
		name, x, _ := strings.Cut(w, ":")
		s = append(s, api.Bind{Name: name, Term: parsed(t, x)})
	}
	return s
}

func textOfBinds(s []api.Bind) string {
	var l []string
	for _, b := range s {
		l = append(l, b.Name+":"+textOf(b.Term))
	}
	return strings.Join(l, " ")
}

// many are so many bindings, in order, of variables to themselves.
func many(n int) []api.Bind {
	var s []api.Bind
	for i := range n {
		name := "X" + strconv.Itoa(100+i)
		s = append(s, api.Bind{Name: name, Term: knot(name)})
	}
	return s
}

type wrong struct {
	what string
	s    []api.Bind
	e    api.Errno
}

// wrongBinds are bindings that may not be, each with what is wrong.
func wrongBinds() []wrong {
	a, x := knot("a"), knot("X")
	full := broad(api.MaxNodes, a)
	bad := many(api.MaxList + 1)
	bad[0].Name = ""
	return []wrong{
		{"MaxList + 1", many(api.MaxList + 1), api.ErrLimit},
		{"MaxList + 1, of which the first is wrong", bad, api.ErrLimit},
		{"a symbol", []api.Bind{{Name: "a", Term: a}}, api.ErrName},
		{"no name", []api.Bind{{Name: "", Term: a}}, api.ErrName},
		{"a digit first", []api.Bind{{Name: "9", Term: a}}, api.ErrName},
		{"MaxName + 1 bytes", []api.Bind{{Name: "Abcdefghi", Term: a}}, api.ErrName},
		{"a blank in it", []api.Bind{{Name: "X Y", Term: a}}, api.ErrName},
		{"a capital of another alphabet", []api.Bind{{Name: "É", Term: a}}, api.ErrName},
		{"twice the same", []api.Bind{{Name: "X", Term: a}, {Name: "X", Term: a}}, api.ErrOrder},
		{"not in order", []api.Bind{{Name: "Y", Term: a}, {Name: "X", Term: a}}, api.ErrOrder},
		{"a beginning behind", []api.Bind{{Name: "X1", Term: a}, {Name: "X", Term: a}}, api.ErrOrder},
		{"by bytes, not by numbers", []api.Bind{{Name: "X9", Term: a}, {Name: "X10", Term: a}}, api.ErrOrder},
		{"by bytes, not by letters", []api.Bind{{Name: "Xa", Term: a}, {Name: "XB", Term: a}}, api.ErrOrder},
		{"the third not in order", []api.Bind{{Name: "X", Term: a}, {Name: "Z", Term: a}, {Name: "Y", Term: a}}, api.ErrOrder},
		{"no term", []api.Bind{{Name: "X"}}, api.ErrName},
		{"a wrong name in a term", []api.Bind{{Name: "X", Term: knot("f", a, knot("9"))}}, api.ErrName},
		{"a variable with one below", []api.Bind{{Name: "X", Term: knot("Y", a)}}, api.ErrForm},
		{"a term of MaxNodes + 1", []api.Bind{{Name: "X", Term: full}}, api.ErrLimit},
		{"an endless term", []api.Bind{{Name: "X", Term: endless()}}, api.ErrLimit},

		{"a wrong name, its term too", []api.Bind{{Name: "a", Term: full}}, api.ErrName},
		{"a wrong name, not in order", []api.Bind{{Name: "a", Term: a}, {Name: "A B", Term: a}}, api.ErrName},
		{"a wrong name behind another", []api.Bind{{Name: "X", Term: a}, {Name: "9", Term: a}}, api.ErrName},
		{"not in order, its term wrong", []api.Bind{{Name: "X", Term: a}, {Name: "X", Term: full}}, api.ErrOrder},
		{"a wrong term, then a wrong name", []api.Bind{{Name: "X", Term: full}, {Name: "a", Term: a}}, api.ErrLimit},
		{"a wrong term, then not in order", []api.Bind{{Name: "X", Term: knot("X", x)}, {Name: "A", Term: a}}, api.ErrForm},
		{"not in order, then a wrong name", []api.Bind{{Name: "X", Term: a}, {Name: "A", Term: a}, {Name: "a", Term: a}}, api.ErrOrder},
	}
}

func TestB1BindingsThatMayBe(t *testing.T) {
	for what, s := range map[string][]api.Bind{
		"none":                       nil,
		"an empty list":              {},
		"one":                        binds(t, "X:f(a,X)"),
		"a variable of MaxName":      binds(t, "Abcdefg8:a"),
		"one that stands for itself": binds(t, "X:X"),
		"by bytes":                   binds(t, "A:a AB:a Aa:a B:a X:a X1:a X10:a X9:a Z:a"),
		"MaxList":                    many(api.MaxList),
		"a term of MaxNodes":         {{Name: "X", Term: broad(api.MaxNodes-1, knot("a"))}},
	} {
		if e := Check(s); e != api.OK {
			t.Errorf("Check of %s: error %d", what, e)
		}
	}
}

func TestB1BindingsThatMayNotBe(t *testing.T) {
	for _, w := range wrongBinds() {
		if e := Check(w.s); e != w.e {
			t.Errorf("Check of %s: error %d, want %d", w.what, e, w.e)
		}
	}
}

func TestB1AllCallsSayItFirst(t *testing.T) {
	other := []api.Bind{{Name: "9"}, {Name: "X"}}
	for _, w := range wrongBinds() {
		x, e := Apply(w.s, knot("", knot("X", knot("a"))))
		if textOf(x) != "" || e != w.e {
			t.Errorf("Apply of %s: %v, error %d, want %d", w.what, x, e, w.e)
		}
		l, e := Then(w.s, other)
		if len(l) != 0 || e != w.e {
			t.Errorf("Then of %s: %v, error %d, want %d", w.what, l, e, w.e)
		}
		l, e = Then(binds(t, "X:Y"), w.s)
		if len(l) != 0 || e != w.e {
			t.Errorf("Then behind which is %s: %v, error %d, want %d", w.what, l, e, w.e)
		}
		stays, names, e := Kind(w.s)
		if stays || names || e != w.e {
			t.Errorf("Kind of %s: %v %v, error %d, want %d", w.what, stays, names, e, w.e)
		}
	}
}

func TestB2Apply(t *testing.T) {
	for _, c := range []struct{ s, t, want string }{
		{"", "a", "a"},
		{"", "f(X,Y)", "f(X,Y)"},
		{"X:a", "X", "a"},
		{"X:a", "Y", "Y"},
		{"X:a", "f(X,g(Y,X))", "f(a,g(Y,a))"},
		{"X:X", "f(X,X)", "f(X,X)"},
		{"X:h(X)", "f(X,h(X))", "f(h(X),h(h(X)))"},
		{"X:Y Y:X", "f(X,Y,X)", "f(Y,X,Y)"},
		{"X:h(Y) Y:a", "f(X,Y)", "f(h(Y),a)"},
		{"X:a X1:b", "f(X1,X,X2)", "f(b,a,X2)"},
		{"X:a", "x(X)", "x(a)"},
		{"X:f(Y,Z)", "f(X,f(X))", "f(f(Y,Z),f(f(Y,Z)))"},
	} {
		x, e := Apply(binds(t, c.s), parsed(t, c.t))
		if textOf(x) != c.want || e != api.OK {
			t.Errorf("Apply(%s, %s): %s, error %d, want %s", c.s, c.t, textOf(x), e, c.want)
		}
	}
}

func TestB2ApplyRefusesTerms(t *testing.T) {
	s := []api.Bind{{Name: "X", Term: broad(api.MaxNodes-1, knot("a"))}}
	for _, c := range []struct {
		t api.Term
		e api.Errno
	}{
		{knot(""), api.ErrName},
		{knot("f", knot("X"), knot("é")), api.ErrName},
		{knot("X", knot("a")), api.ErrForm},
		{broad(api.MaxNodes, knot("X")), api.ErrLimit},
		{endless(), api.ErrLimit},
		{broad(api.MaxNodes-1, knot("X")), api.ErrFull},
	} {
		if x, e := Apply(s, c.t); textOf(x) != "" || e != c.e {
			t.Errorf("Apply: %.60s, error %d, want %d", textOf(x), e, c.e)
		}
	}
}

// grown are bindings of X and a term that has so many knots with them in it.
func grown(knots int) ([]api.Bind, api.Term) {
	s := []api.Bind{{Name: "X", Term: broad(99, knot("a"))}}
	t := broad((knots-1)/100, knot("X"))
	for range (knots - 1) % 100 {
		t.Args = append(t.Args, knot("a"))
	}
	return s, t
}

func TestB2ApplyGrows(t *testing.T) {
	for _, many := range []int{api.MaxGrown - 1, api.MaxGrown} {
		s, x := grown(many)
		if y, e := Apply(s, x); count(y) != many || e != api.OK {
			t.Errorf("Apply of %d knots: %d, error %d", many, count(y), e)
		}
	}
	for _, many := range []int{api.MaxGrown + 1, api.MaxGrown + 500} {
		s, x := grown(many)
		if y, e := Apply(s, x); textOf(y) != "" || e != api.ErrFull {
			t.Errorf("Apply of %d knots: %.60s, error %d", many, textOf(y), e)
		}
	}
}

func TestB2Then(t *testing.T) {
	for _, c := range []struct{ s, r, want string }{
		{"", "", ""},
		{"X:h(Y)", "Y:a", "X:h(a) Y:a"},
		{"X:a", "X:b", "X:a"},
		{"X:Y", "Y:X", "Y:X"},
		{"X:Y Y:X", "X:Y Y:X", ""},
		{"X:X", "", ""},
		{"", "X:X Y:a", "Y:a"},
		{"X:X", "X:a", "X:a"},
		{"X:f(X,Y)", "X:Y Y:X", "X:f(Y,X) Y:X"},
		{"X:h(X)", "X:h(X)", "X:h(h(X))"},
		{"Y:a", "A:b Z:c", "A:b Y:a Z:c"},
		{"A:b Z:c", "Y:a", "A:b Y:a Z:c"},
		{"X10:a X9:b", "X1:c", "X1:c X10:a X9:b"},
		{"X:Y Y:Z", "Z:a", "X:Y Y:a Z:a"},
		{"X:Y Z:X", "X:Z", "X:Y"},
	} {
		l, e := Then(binds(t, c.s), binds(t, c.r))
		if textOfBinds(l) != c.want || e != api.OK {
			t.Errorf("Then(%s; %s): %s, error %d, want %s", c.s, c.r, textOfBinds(l), e, c.want)
		}
	}
}

// Together there may be more than MaxList.
func TestB2ThenOfMany(t *testing.T) {
	var s, r []api.Bind
	for i := range api.MaxList {
		s = append(s, api.Bind{Name: "X" + strconv.Itoa(100+i), Term: knot("a")})
		r = append(r, api.Bind{Name: "W" + strconv.Itoa(100+i), Term: knot("b")})
	}
	l, e := Then(s, r)
	if textOfBinds(l) != textOfBinds(slices.Concat(r, s)) || e != api.OK {
		t.Errorf("Then: %s, error %d", textOfBinds(l), e)
	}
}

func TestB2ThenGrows(t *testing.T) {
	for _, c := range []struct {
		many int
		e    api.Errno
	}{{api.MaxGrown, api.OK}, {api.MaxGrown + 1, api.ErrFull}} {
		r, x := grown(c.many)
		s := []api.Bind{{Name: "A", Term: knot("a")}, {Name: "Y", Term: x}}
		l, e := Then(s, r)
		if e != c.e || e != api.OK && len(l) != 0 || e == api.OK && (len(l) != 3 || count(l[2].Term) != c.many) {
			t.Errorf("Then of %d knots: %d bindings, error %d, want %d", c.many, len(l), e, c.e)
		}
	}
}

func TestB2Kind(t *testing.T) {
	for _, c := range []struct {
		s            string
		stays, names bool
	}{
		{"", true, true},
		{"X:a", true, false},
		{"X:Y", true, true},
		{"X:X", true, true},
		{"X:Y Y:X", false, true},
		{"X:Y Y:Y", true, false},
		{"X:Z Y:Z", true, false},
		{"X:Y Y:Z", false, true},
		{"X:h(X)", false, false},
		{"X:h(Y)", true, false},
		{"X:f(a,Y) Y:b", false, false},
		{"X:f(a,Y) Y:Y", true, false},
		{"X:Y Z:a", true, false},
		{"X:x", true, false},
		{"X:U Y:V Z:Z", true, true},
		{"X:U Y:V Z:X", false, true},
	} {
		stays, names, e := Kind(binds(t, c.s))
		if stays != c.stays || names != c.names || e != api.OK {
			t.Errorf("Kind(%s): %v %v, error %d, want %v %v", c.s, stays, names, e, c.stays, c.names)
		}
	}
}

// all are all bindings of X, Y to some terms, or to none.
func all(t *testing.T) [][]api.Bind {
	terms := []string{"", "X", "Y", "Z", "a", "h(X)", "f(X,Y)", "f(Y,Z)"}
	var l [][]api.Bind
	for _, x := range terms {
		for _, y := range terms {
			text := ""
			if x != "" {
				text = "X:" + x
			}
			if y != "" {
				text += " Y:" + y
			}
			l = append(l, binds(t, text))
		}
	}
	return l
}

func TestB2ThenDoesBoth(t *testing.T) {
	x := parsed(t, "f(X,g(Y,Z),X)")
	for _, s := range all(t) {
		for _, r := range all(t) {
			once, _ := Apply(s, x)
			twice, _ := Apply(r, once)
			l, _ := Then(s, r)
			both, e := Apply(l, x)
			if textOf(both) != textOf(twice) || e != api.OK {
				t.Errorf("Then(%s; %s): %s, error %d, want %s", textOfBinds(s), textOfBinds(r), textOf(both), e, textOf(twice))
			}
			for _, b := range l {
				if textOf(b.Term) == b.Name {
					t.Errorf("Then(%s; %s): %s", textOfBinds(s), textOfBinds(r), textOfBinds(l))
				}
			}
		}
	}
}

func TestB2StaysIsDoneTwice(t *testing.T) {
	x := parsed(t, "f(X,Y,Z)")
	for _, s := range all(t) {
		once, _ := Apply(s, x)
		twice, _ := Apply(s, once)
		stays, _, e := Kind(s)
		if stays != (textOf(once) == textOf(twice)) || e != api.OK {
			t.Errorf("Kind(%s): %v, error %d", textOfBinds(s), stays, e)
		}
	}
}

func spoilBinds(s []api.Bind) {
	for i := range s {
		spoil(s[i].Term)
		s[i] = api.Bind{Name: "Spoilt"}
	}
}

func TestZ2FreshMemory(t *testing.T) {
	s, r, x := binds(t, "X:f(a,Y)"), binds(t, "W:h(a) Y:h(b)"), parsed(t, "g(X,X,h(Y))")
	apart := func() {
		t.Helper()
		if textOfBinds(s) != "X:f(a,Y)" || textOfBinds(r) != "W:h(a) Y:h(b)" || textOf(x) != "g(X,X,h(Y))" {
			t.Fatalf("written into: %s; %s; %s", textOfBinds(s), textOfBinds(r), textOf(x))
		}
	}
	y, _ := Apply(s, x)
	apart()
	spoil(y.Args[0])
	if textOf(y.Args[1]) != "f(a,Y)" {
		t.Errorf("Apply shares memory: %s", textOf(y))
	}
	spoil(y)
	apart()
	l, _ := Then(s, r)
	apart()
	spoil(l[1].Term)
	if textOf(l[2].Term) != "h(b)" {
		t.Errorf("Then shares memory: %s", textOfBinds(l))
	}
	spoilBinds(l)
	apart()
	Kind(s)
	Check(s)
	apart()
}

// What stands behind a list in memory is nothing to these calls.
func TestZ2NothingBeyond(t *testing.T) {
	s := binds(t, "X:a Y:b Z:c")
	if x, e := Apply(s[:1], parsed(t, "f(X,Y)")); textOf(x) != "f(a,Y)" || e != api.OK {
		t.Errorf("Apply: %s, error %d", textOf(x), e)
	}
	l, e := Then(s[:1], s[:2])
	if textOfBinds(l) != "X:a Y:b" || textOfBinds(s) != "X:a Y:b Z:c" || e != api.OK {
		t.Errorf("Then: %s, error %d, of %s", textOfBinds(l), e, textOfBinds(s))
	}
}
