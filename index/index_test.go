package index

import (
	"slices"
	"strconv"
	"strings"
	"testing"

	"metaprune/api"
	"metaprune/match"
	"metaprune/sample"
	"metaprune/term"
	"metaprune/unify"
)

var (
	knot   = sample.Knot
	broad  = sample.Broad
	tower  = sample.Tower
	textOf = sample.Text
)

func parsed(t *testing.T, text string) api.Term {
	t.Helper()
	x, e := term.Parse(text)
	if e != api.OK {
		t.Fatalf("Parse(%q): error %d", text, e)
	}
	return x
}

// termsOf reads terms, a blank between.
func termsOf(t *testing.T, text string) []api.Term {
	t.Helper()
	var l []api.Term
	for _, w := range strings.Fields(text) {
		l = append(l, parsed(t, w))
	}
	return l
}

func made(t *testing.T, l []api.Term) *Index {
	t.Helper()
	x, e := New(l)
	if x == nil || e != api.OK {
		t.Fatalf("New of %s: error %d", strings.Join(sample.Texts(l), " "), e)
	}
	return x
}

func textOfNumbers(l []int) string {
	var out []string
	for _, n := range l {
		out = append(out, strconv.Itoa(n))
	}
	return strings.Join(out, " ")
}

// answers tells what Over, Under and Near answer, and the first error.
func answers(x *Index, t api.Term) (string, api.Errno) {
	a, e := x.Over(t)
	b, f := x.Under(t)
	c, g := x.Near(t)
	if e != f || f != g {
		return "three errors", -1
	}
	return textOfNumbers(a) + "; " + textOfNumbers(b) + "; " + textOfNumbers(c), e
}

func TestL1ListsThatMayBe(t *testing.T) {
	most := make([]api.Term, api.MaxList)
	for i := range most {
		most[i] = broad(api.MaxNodes-1, knot("X"))
	}
	for what, l := range map[string][]api.Term{
		"none":                    nil,
		"an empty list":           {},
		"one":                     {knot("a")},
		"MaxList, of MaxNodes":    most,
		"twice the same":          {knot("X"), knot("X")},
		"one name, other numbers": {knot("f"), knot("f", knot("f"))},
	} {
		if x, e := New(l); x == nil || e != api.OK {
			t.Errorf("New of %s: error %d", what, e)
		}
	}
}

func TestL1ListsThatMayNotBe(t *testing.T) {
	refused := func(what string, l []api.Term, want api.Errno) {
		t.Helper()
		if x, e := New(l); x != nil || e != want {
			t.Errorf("New of %s: an index %v, error %d, want %d", what, x != nil, e, want)
		}
	}
	many := slices.Repeat([]api.Term{knot("a")}, api.MaxList+1)
	refused("MaxList + 1", many, api.ErrLimit)
	refused("MaxList + 1 without names", make([]api.Term, api.MaxList+1), api.ErrLimit)
	many[0] = knot("X", knot("a"))
	refused("MaxList + 1, the first one wrong", many, api.ErrLimit)
	last := slices.Repeat([]api.Term{knot("a")}, api.MaxList)
	for _, w := range sample.Wrongs() {
		refused(w.What, []api.Term{w.Term}, w.Errno)
		last[api.MaxList-1] = w.Term
		refused(w.What+" at the end", last, w.Errno)
		for _, v := range sample.Wrongs() {
			refused(w.What+" ahead of "+v.What, []api.Term{knot("a"), w.Term, v.Term}, w.Errno)
		}
	}
}

func TestL1TermsThatMayNotBe(t *testing.T) {
	for _, l := range [][]api.Term{nil, termsOf(t, "X f(X,b) a")} {
		for _, w := range sample.Wrongs() {
			if s, e := answers(made(t, l), w.Term); s != "; ; " || e != w.Errno {
				t.Errorf("%s: %s, error %d, want %d", w.What, s, e, w.Errno)
			}
		}
	}
}

func TestL1Questions(t *testing.T) {
	for _, c := range []struct{ what, l, t, want string }{
		{"the document's Over", "f(X,b) f(a,Y) h(X)", "f(a,b)", "0 1; ; 0 1"},
		{"the document's Under", "f(X,b) f(a,Y) h(X)", "f(Z,b)", "0; 0; 0 1"},
		{"the document's Near", "f(X,b) f(a,Y) h(X)", "f(b,Z)", "; ; 0"},
		{"none", "", "X", "; ; "},
		{"a symbol", "a b X a", "a", "0 2 3; 0 3; 0 2 3"},
		{"a variable asked", "a Y f(X,h(b)) X", "Z", "1 3; 0 1 2 3; 0 1 2 3"},
		{"a variable within itself", "h(X) X h(h(Y))", "X", "1; 0 1 2; 1 2"},
		{"it within it", "X Y h(X)", "h(X)", "0 1 2; 2; 1 2"},
		{"the same variable twice asked", "f(a,a) f(a,b) f(X,Y) f(X,X) f(X,h(X))", "f(Z,Z)", "2 3; 0 3; 0 2 3"},
		{"the same variable twice in it", "f(X,X) f(X,Y) g(X,X)", "f(a,b)", "1; ; 1"},
		{"the same variable twice, of terms", "f(X,X) f(h(X),X)", "f(h(a),h(a))", "0; ; 0"},
		{"variables of one name", "f(X,a) f(a,X) f(X,b)", "f(b,X)", "; ; 2"},
		{"variables of one name, turned", "f(X,Y)", "f(Y,X)", "0; 0; 0"},
		{"variables of one name that can't be", "f(X,h(Y)) f(X,h(Z))", "f(Y,X)", "; 0 1; 1"},
		{"other numbers below", "f f(X) f(X,Y) f(X,Y,Z)", "f(a,b)", "2; ; 2"},
		{"other numbers below, asked", "f f(a) f(a,b) f(a,b,c)", "f(X,Y)", "; 2; 2"},
		{"names that begin alike", "ab a abc aX h(a) ha", "a", "1; 1; 1"},
		{"past whole terms", "f(g(a,h(b)),c) f(g(h(a),b),c) f(a,c) f(h(g(a,b)),d)", "f(X,c)", "; 0 1 2; 0 1 2"},
		{"past terms within", "g(f(a,h(b)),h(c)) g(f(h(a),b),h(c)) g(f(a,b),h(d))", "g(f(X,Y),h(c))", "; 0 1; 0 1"},
		{"a variable past a whole term", "f(X,c) f(h(X),c) f(g(X,Y),c) f(X,d)", "f(g(h(a),b),c)", "0 2; ; 0 2"},
		{"variables of both sides", "f(X,h(b)) f(h(a),X) f(k(X),X)", "f(h(Z),Y)", "; 1; 0 1"},
		{"a variable against what it is past", "g(h(X),f(X,a),b) g(Y,f(Y,Y),b)", "g(Z,f(b,W),U)", "; ; 0 1"},
	} {
		x := made(t, termsOf(t, c.l))
		if s, e := answers(x, parsed(t, c.t)); s != c.want || e != api.OK {
			t.Errorf("%s: of %s, %s: %s, error %d, want %s", c.what, c.l, c.t, s, e, c.want)
		}
	}
}

// Twelve and more: numbers rise as numbers do, not as their texts.
func TestL1AllRising(t *testing.T) {
	var l []api.Term
	var all []int
	for i := range api.MaxList {
		l = append(l, knot("f", knot([]string{"a", "X", "b", "Y"}[i%4]), tower(i*7%12, knot("a"))))
		all = append(all, i)
	}
	x := made(t, l)
	for range 5 {
		if n, e := x.Under(parsed(t, "f(U,V)")); !slices.Equal(n, all) || e != api.OK {
			t.Fatalf("Under: %v, error %d", n, e)
		}
		if n, e := x.Near(parsed(t, "f(U,V)")); !slices.Equal(n, all) || e != api.OK {
			t.Fatalf("Near: %v, error %d", n, e)
		}
	}
	l = slices.Repeat([]api.Term{knot("X")}, api.MaxList)
	if n, e := made(t, l).Over(knot("a")); !slices.Equal(n, all) || e != api.OK {
		t.Fatalf("Over: %v, error %d", n, e)
	}
}

// What Unify says is too great is not made one: with f(A,B,C) what stands for A has
// a knot, so many a, and 44 times the 45 knots of what stands for B.
func TestL1NearOfMaxGrown(t *testing.T) {
	l := []api.Term{parsed(t, "f(A,B,C)")}
	for more, want := range map[int]string{0: "0", 19: "0", 20: "", 60: ""} {
		first := broad(44, knot("B"))
		first.Args = append(first.Args, broad(more, knot("a")).Args...)
		x := knot("f", first, broad(44, knot("C")), knot("c"))
		if n, e := made(t, l).Near(x); textOfNumbers(n) != want || e != api.OK {
			t.Errorf("Near, %d more: %v, error %d, want %q", more, n, e, want)
		}
		if n, e := made(t, []api.Term{x, knot("a")}).Near(l[0]); textOfNumbers(n) != want || e != api.OK {
			t.Errorf("Near, %d more, the other way round: %v, error %d, want %q", more, n, e, want)
		}
	}
}

// plain asks each term by itself.
func plain(t *testing.T, l []api.Term, x api.Term) string {
	t.Helper()
	var a, b, c []int
	for i, y := range l {
		_, over, e := match.Match(y, x)
		_, under, f := match.Match(x, y)
		if e != api.OK || f != api.OK {
			t.Fatalf("Match: errors %d, %d", e, f)
		}
		if over {
			a = append(a, i)
		}
		if under {
			b = append(b, i)
		}
		if _, e := unify.Unify([]api.Pair{{Left: x, Right: y}}); e == api.OK {
			c = append(c, i)
		}
	}
	return textOfNumbers(a) + "; " + textOfNumbers(b) + "; " + textOfNumbers(c)
}

func TestL1WordByWord(t *testing.T) {
	d := sample.Die(7)
	found := 0
	for range 600 {
		var l []api.Term
		for range d.Roll(api.MaxList + 1) {
			l = append(l, d.Term(d.Roll(4), "X", "Y", "Z", "a", "b", "f"))
		}
		x := made(t, l)
		for range 6 {
			y := d.Term(d.Roll(4), "X", "Y", "U", "a", "b", "f")
			want := plain(t, l, y)
			if s, e := answers(x, y); s != want || e != api.OK {
				t.Fatalf("of %s, %s: %s, error %d, want %s", strings.Join(sample.Texts(l), " "), textOf(y), s, e, want)
			}
			found += len(want) - len("; ; ")
		}
	}
	if found < 1000 {
		t.Errorf("found just %d", found)
	}
}

func TestZ1NoIndex(t *testing.T) {
	none, _ := New(make([]api.Term, api.MaxList+1))
	for what, x := range map[string]*Index{"what New answers with an error": none, "none": nil, "an empty one": {}} {
		if s, e := answers(x, knot("X")); s != "; ; " || e != api.OK {
			t.Errorf("%s: %s, error %d", what, s, e)
		}
		if s, e := answers(x, knot("")); s != "; ; " || e != api.ErrName {
			t.Errorf("%s: %s, error %d", what, s, e)
		}
	}
}

// The greatest that is given: MaxList terms of MaxNodes knots, asked with as many
// variables, or with as many terms.
func TestZ1EndsSoon(t *testing.T) {
	var l []api.Term
	for i := range api.MaxList {
		x := broad(api.MaxNodes-1, knot("X"))
		for j := range x.Args {
			if (j+i)%3 > 0 {
				x.Args[j] = knot([]string{"a", "b"}[(i>>(j%6)+j)%2])
			}
		}
		l = append(l, x)
	}
	x := made(t, l)
	for _, name := range []string{"X", "a", "Y"} {
		y := broad(api.MaxNodes-1, knot(name))
		want := plain(t, l, y)
		for range 20 {
			if s, e := answers(x, y); s != want || e != api.OK {
				t.Errorf("of %s: %s, error %d, want %s", name, s, e, want)
			}
		}
	}
	for i := range l {
		l[i] = tower(api.MaxNodes-1-i, knot("X"))
	}
	x = made(t, l)
	for _, y := range []api.Term{knot("Y"), tower(api.MaxNodes-1, knot("Y")), tower(api.MaxNodes-20, knot("a")), l[3]} {
		want := plain(t, l, y)
		for range 20 {
			if s, e := answers(x, y); s != want || e != api.OK {
				t.Errorf("of a tower: %s, error %d, want %s", s, e, want)
			}
		}
	}
}

func TestZ2NothingIsKept(t *testing.T) {
	l := termsOf(t, "f(X,h(b)) f(a,Y) h(X) Z f(a,h(b)) f(X,X)")
	before := strings.Join(sample.Texts(l), " ")
	x := made(t, l)
	y := parsed(t, "f(a,h(b))")
	want, _ := answers(x, y)
	if want != "0 1 3 4; 4; 0 1 3 4" {
		t.Errorf("at first: %s", want)
	}
	if strings.Join(sample.Texts(l), " ") != before || textOf(y) != "f(a,h(b))" {
		t.Error("written into")
	}
	for i := range l {
		sample.Spoil(l[i])
		l[i] = knot("spoilt")
	}
	for _, ask := range []func(api.Term) ([]int, api.Errno){x.Over, x.Under, x.Near} {
		n, _ := ask(y)
		for i := range n {
			n[i] = -7
		}
		_ = append(n, -7)
	}
	if s, e := answers(x, y); s != want || e != api.OK {
		t.Errorf("once more: %s, error %d, want %s", s, e, want)
	}
}

func TestZ2NothingBeyond(t *testing.T) {
	l := termsOf(t, "f(X,b) f(a,Y) f(a,b)")
	l[0].Args = l[0].Args[:1]
	x := made(t, l[:2])
	y := broad(3, knot("a"))
	y.Args = y.Args[:1]
	if s, e := answers(x, y); s != "0; ; 0" || e != api.OK {
		t.Errorf("%s, error %d", s, e)
	}
}

// All nodes behind one term are gone through; who has enough leaves.
func TestBehind(t *testing.T) {
	x := made(t, termsOf(t, "a X f(a,h(b)) f(a,Y) h(h(a)) h(h(a)) Z"))
	for most := range 7 {
		var numbers []int
		nodes := 0
		for n := range x.root.behind() {
			if nodes == most {
				break
			}
			nodes++
			numbers = append(numbers, n.numbers...)
		}
		slices.Sort(numbers)
		if nodes != min(most, 5) || len(slices.Compact(numbers)) < nodes || most > 4 && len(numbers) != 7 {
			t.Errorf("left behind %d: %d nodes, numbers %v", most, nodes, numbers)
		}
	}
}
