package critical

import (
	"strconv"
	"strings"
	"testing"

	"metaprune/api"
	"metaprune/sample"
	"metaprune/term"
)

var (
	knot   = sample.Knot
	broad  = sample.Broad
	tower  = sample.Tower
	textOf = sample.Text
)

func parsed(t *testing.T, text string) api.Term {
	t.Helper()
	x, e := term.Parse(text)
	if e != api.OK {
		t.Fatalf("Parse(%q): error %d", text, e)
	}
	return x
}

// rulesOf reads rules, "h(h(X))>X f(a,X)>X".
func rulesOf(t *testing.T, text string) []api.Pair {
	t.Helper()
	var l []api.Pair
	for _, w := range strings.Fields(text) {
		left, right, _ := strings.Cut(w, ">")
		l = append(l, api.Pair{Left: parsed(t, left), Right: parsed(t, right)})
	}
	return l
}

func textOfPairs(l []api.Pair) string {
	var out []string
	for _, p := range l {
		out = append(out, textOf(p.Left)+">"+textOf(p.Right))
	}
	return strings.Join(out, " ")
}

func rule(left, right api.Term) api.Pair { return api.Pair{Left: left, Right: right} }

// chain are so many rules, a0 to a1, a1 to a2, ..
func chain(many int) []api.Pair {
	var l []api.Pair
	for i := range many {
		l = append(l, rule(knot("a"+strconv.Itoa(i)), knot("a"+strconv.Itoa(i+1))))
	}
	return l
}

// refused: both calls say this error, and nothing else.
func refused(t *testing.T, what string, rules []api.Pair, want api.Errno) {
	t.Helper()
	if l, e := Pairs(rules); len(l) != 0 || e != want {
		t.Errorf("Pairs of %s: %d pairs, error %d, want %d", what, len(l), e, want)
	}
	for _, fuel := range []int{-1, 0, 9, api.MaxFuel + 1} {
		if ok, e := Join(rules, fuel); ok || e != want {
			t.Errorf("Join of %s, %d: %v, error %d, want %d", what, fuel, ok, e, want)
		}
	}
}

func TestH1Pairs(t *testing.T) {
	for _, c := range []struct{ what, rules, want string }{
		{"none", "", ""},
		{"nothing in the way", "f(a,X)>X h(b)>a", ""},
		{"the document's own", "f(f(X,Y),Z)>f(X,f(Y,Z))", "f(f(Z1,Z2),f(Z3,Z4))>f(f(Z1,f(Z2,Z3)),Z4)"},
		{
			"the document's three", "f(a,X)>X f(h(X),Y)>h(f(X,Y)) f(f(X,Y),Z)>f(X,f(Y,Z))",
			"f(a,f(Z1,Z2))>f(Z1,Z2) f(h(Z1),f(Z2,Z3))>f(h(f(Z1,Z2)),Z3) f(f(Z1,Z2),f(Z3,Z4))>f(f(Z1,f(Z2,Z3)),Z4)",
		},
		{"one within itself", "h(h(X))>X", "h(Z1)>h(Z1)"},
		{"one twice within itself", "h(h(h(X)))>a", "a>h(a) a>h(h(a))"},
		{"a term without variables", "h(a)>b a>c", "b>h(c)"},
		{"two of the same Left", "h(a)>b h(a)>c", "b>c c>b"},
		{"a rule that stands there twice", "h(a)>b h(a)>b", "b>b b>b"},
		{"the whole, by variables", "f(a,X)>X f(Y,b)>Y", "b>a a>b"},
		{"place by place", "f(h(a),g(h(b),X))>X h(Y)>k(Y)", "Z1>f(k(a),g(h(b),Z1)) Z1>f(h(a),g(k(b),Z1))"},
		{"a place ahead of those below it", "k(h(h(X)))>X h(Y)>g(Y)", "Z1>k(g(h(Z1))) Z1>k(h(g(Z1)))"},
		{"the inner ones in order", "k(h(a))>b h(a)>c h(X)>d", "b>k(c) b>k(d) c>d d>c"},
		{"the outer ones in order", "h(a)>c k(h(a))>b g(h(a))>d", "b>k(c) d>g(c)"},
		{"no pairs at variables", "f(X,h(X))>a b>c", ""},
		{"another symbol at the place", "f(h(a),a)>b k(a)>c", ""},
		{"another number below", "g(h(a,b))>c h(a)>d", ""},
		{"a clash below", "k(f(X,b))>X f(Y,c)>Y", ""},
		{"a clash by a variable", "k(f(X,X))>X f(b,c)>a", ""},
		{"a variable within itself", "k(f(X,h(X)))>a f(Y,Y)>b", ""},
	} {
		l, e := Pairs(rulesOf(t, c.rules))
		if textOfPairs(l) != c.want || e != api.OK {
			t.Errorf("%s: Pairs of %s: %s, error %d, want %s", c.what, c.rules, textOfPairs(l), e, c.want)
		}
	}
}

func TestH1VariablesOfTheirOwn(t *testing.T) {
	for _, c := range []struct{ what, rules, want string }{
		{"of two rules", "f(X,h(Y))>X h(k(X))>X", "Z1>f(Z1,Z2)"},
		{"of one with itself", "h(f(X,h(Y)))>X", "Z1>h(f(Z1,Z2))"},
		{"which would be within itself", "f(X,h(X))>X h(k(X))>b", "k(Z1)>f(k(Z1),b)"},
		{"whose names are those to be given", "f(Z2,h(Z1))>Z2 h(k(Z2))>Z2", "Z1>f(Z1,Z2)"},
		{"whose names begin with digits of others", "f(X1,h(X))>X h(k(X1))>X1", "k(Z1)>f(Z2,Z1)"},
	} {
		l, e := Pairs(rulesOf(t, c.rules))
		if textOfPairs(l) != c.want || e != api.OK {
			t.Errorf("%s: Pairs of %s: %s, error %d, want %s", c.what, c.rules, textOfPairs(l), e, c.want)
		}
	}
}

func TestH1NamesAsTheyCome(t *testing.T) {
	for _, c := range []struct{ what, rules, want string }{
		{"in Left first", "f(h(X),Y,Z)>g(Z,Y) h(k(U))>U", "g(Z1,Z2)>f(Z3,Z2,Z1)"},
		{"in Right, if Left has none", "f(h(X),Y,Z)>a h(k(U))>U", "a>f(Z1,Z2,Z3)"},
		{"in each pair from 1 on", "f(h(X),h(Y))>g(Y,X) h(U)>U", "g(Z1,Z2)>f(Z2,h(Z1)) g(Z1,Z2)>f(h(Z2),Z1)"},
	} {
		l, e := Pairs(rulesOf(t, c.rules))
		if textOfPairs(l) != c.want || e != api.OK {
			t.Errorf("%s: Pairs of %s: %s, error %d, want %s", c.what, c.rules, textOfPairs(l), e, c.want)
		}
	}
}

func TestH1RulesThatMayNotBe(t *testing.T) {
	for _, w := range sample.Wrongs() {
		refused(t, w.What+" on the left", []api.Pair{rule(w.Term, knot("a"))}, w.Errno)
		refused(t, w.What+" on the right", []api.Pair{rule(knot("a"), w.Term)}, w.Errno)
	}
	bad := chain(api.MaxList + 1)
	bad[0].Left = knot("")
	refused(t, "MaxList + 1", chain(api.MaxList+1), api.ErrLimit)
	refused(t, "MaxList + 1, of which the first is wrong", bad, api.ErrLimit)
	refused(t, "a variable on the left", rulesOf(t, "X>a"), api.ErrForm)
	refused(t, "a variable on the right alone", rulesOf(t, "h(X)>Y"), api.ErrOpen)
	refused(t, "the second one", rulesOf(t, "h(X)>X X>a"), api.ErrForm)
	refused(t, "the first of two that may not be", rulesOf(t, "h(X)>Y X>a"), api.ErrOpen)
	refused(t, "one that may not be, behind too great a pair", append(sides(1, 0), rulesOf(t, "X>a")...), api.ErrForm)
	refused(t, "one that may not be, behind too many pairs", append(crowd(5), rulesOf(t, "X>a")...), api.ErrForm)
}

// doubles are two rules of p: what makes their left sides one doubles a variable's
// term so many times.
func doubles(many int) []api.Pair {
	outer, inner := knot("p"), knot("p")
	x := func(i int) api.Term { return knot("X" + strconv.Itoa(i)) }
	for i := range many {
		outer.Args = append(outer.Args, x(i), x(i+1))
		inner.Args = append(inner.Args, knot("g", x(i+1), x(i+1)), x(i+1))
	}
	return []api.Pair{rule(outer, knot("a")), rule(inner, knot("b"))}
}

func TestH1UnifyIsFull(t *testing.T) {
	l, e := Pairs(doubles(9))
	if textOfPairs(l) != "a>b b>a" || e != api.OK {
		t.Errorf("9 times: %s, error %d", textOfPairs(l), e)
	}
	refused(t, "10 times", doubles(10), api.ErrFull)
	refused(t, "10 times, behind others", append(rulesOf(t, "h(h(X))>X"), doubles(10)...), api.ErrFull)
}

// grown has x at 19 places, and MaxGrown knots and so many more, if x has 100.
func grown(x api.Term, more int) api.Term {
	t := broad(19, x)
	for range api.MaxGrown - 1901 + more {
		t.Args = append(t.Args, knot("a"))
	}
	return t
}

// sides are rules of a pair whose sides have MaxGrown knots and so many more.
func sides(left, right int) []api.Pair {
	hundred := broad(99, knot("b"))
	return []api.Pair{
		rule(knot("k", knot("h", knot("X")), knot("Y")), grown(knot("X"), left)),
		rule(knot("h", hundred), knot("c")),
		rule(knot("g", knot("l", hundred)), knot("c")),
		rule(knot("l", knot("X")), grown(knot("X"), right-1)),
	}
}

func TestH1SidesAreFull(t *testing.T) {
	l, e := Pairs(sides(0, 0))
	if len(l) != 2 || e != api.OK {
		t.Fatalf("MaxGrown: %d pairs, error %d", len(l), e)
	}
	if n := sample.Count(l[0].Left); n != api.MaxGrown || textOf(l[0].Right) != "k(c,Z1)" {
		t.Errorf("the outer Right: %d knots; %s", n, textOf(l[0].Right))
	}
	if n := sample.Count(l[1].Right); n != api.MaxGrown || textOf(l[1].Left) != "c" {
		t.Errorf("the inner Right within the outer Left: %d knots; %s", n, textOf(l[1].Left))
	}
	refused(t, "one knot more by the outer Right", sides(1, 0), api.ErrFull)
	refused(t, "one knot more by the inner Right", sides(0, 1), api.ErrFull)
	refused(t, "one knot more by both", sides(1, 1), api.ErrFull)
}

// crowd has 97 places for each of so many rules, and the pairs of these at the whole.
func crowd(many int) []api.Pair {
	l := []api.Pair{rule(broad(97, knot("h", knot("a"))), knot("a"))}
	for range many {
		l = append(l, rule(knot("h", knot("a")), knot("b")))
	}
	return l
}

func TestH1TooManyPairs(t *testing.T) {
	l, e := Pairs(crowd(4))
	if len(l) != 400 || e != api.OK {
		t.Errorf("400: %d pairs, error %d", len(l), e)
	}
	refused(t, "401", append(crowd(4), rulesOf(t, "k(k(X))>X")...), api.ErrLimit)
	refused(t, "485 of the first one", crowd(5), api.ErrLimit)
}

// They are counted behind each inner rule: so a pair of this one that is too great
// is told first, one of the next is not.
func TestH1TooManyOrTooGreat(t *testing.T) {
	outer := broad(81, knot("h", knot("a")))
	outer.Args = append(outer.Args, knot("h", broad(35, knot("a"))))
	few, great := rule(knot("h", knot("a")), knot("b")), rule(knot("h", knot("Y")), broad(60, knot("Y")))
	for _, c := range []struct {
		what string
		many int
		e    api.Errno
	}{
		{"too great ahead of too many", 3, api.ErrFull},
		{"too great within the rule by which they are too many", 4, api.ErrFull},
		{"too many, then too great", 5, api.ErrLimit},
	} {
		rules := []api.Pair{rule(outer, knot("a"))}
		for range c.many {
			rules = append(rules, few)
		}
		refused(t, c.what, append(rules, great), c.e)
	}
}

func TestH2Join(t *testing.T) {
	for _, c := range []struct {
		rules string
		fuel  int
		want  bool
	}{
		{"", 0, true},
		{"f(a,X)>X h(b)>a", 0, true},
		{"h(h(X))>X", 0, true},
		{"f(a,X)>X f(h(X),Y)>h(f(X,Y)) f(f(X,Y),Z)>f(X,f(Y,Z))", 50, true},
		{"f(a,X)>X f(h(X),Y)>h(f(X,Y)) f(f(X,Y),Z)>f(X,f(Y,Z))", api.MaxFuel, true},
		{"f(f(X,Y),Z)>f(X,f(Y,Z))", 2, true},
		{"h(a)>b h(a)>c", 0, false},
		{"h(a)>b h(a)>c", api.MaxFuel, false},
		{"h(a)>b h(a)>c b>c", 1, true},
		{"h(h(X))>k(X)", 9, false},
		{"h(h(X))>k(X) h(k(X))>k(h(X))", 9, true},
		{"f(X,X)>X f(a,b)>c a>b", 9, false},
		{"f(X,X)>X f(a,b)>b a>b", 9, true},
	} {
		ok, e := Join(rulesOf(t, c.rules), c.fuel)
		if ok != c.want || e != api.OK {
			t.Errorf("Join of %s, %d: %v, error %d, want %v", c.rules, c.fuel, ok, e, c.want)
		}
	}
}

func TestH2Fuel(t *testing.T) {
	rules := rulesOf(t, "h(h(X))>X")
	for fuel, want := range map[int]api.Errno{-1: api.ErrPlace, 0: api.OK, api.MaxFuel: api.OK, api.MaxFuel + 1: api.ErrPlace, -1 << 62: api.ErrPlace, 1 << 62: api.ErrPlace} {
		for _, l := range [][]api.Pair{rules, nil} {
			ok, e := Join(l, fuel)
			if ok != (want == api.OK) || e != want {
				t.Errorf("Join of %s, %d: %v, error %d, want %d", textOfPairs(l), fuel, ok, e, want)
			}
		}
	}
}

// Each side has so many steps: the two are not counted together.
func TestH2StepsOfEachSide(t *testing.T) {
	rules := append(chain(9), rulesOf(t, "b>a0 b>a9 c>a5 c>a0")...)
	for fuel, want := range map[int]api.Errno{8: api.ErrFuel, 9: api.OK} {
		ok, e := Join(rules, fuel)
		if ok != (want == api.OK) || e != want {
			t.Errorf("Join, %d: %v, error %d, want %d", fuel, ok, e, want)
		}
	}
	turned := append(chain(9), rulesOf(t, "b>a9 b>a0")...)
	if ok, e := Join(turned, 8); ok || e != api.ErrFuel {
		t.Errorf("Join, by the first pair's right side: %v, error %d", ok, e)
	}
}

func TestH2TheFirstThatDoNotMeet(t *testing.T) {
	grows := "h(X)>f(h(X),h(X),h(X),h(X),h(X),h(X),h(X),h(X),h(X))"
	for _, c := range []struct {
		what, rules string
		fuel        int
		e           api.Errno
	}{
		{"without end", "k(k(X))>l(X) l(X)>l(X)", api.MaxFuel, api.ErrFuel},
		{"too great", "k(k(X))>h(X) " + grows, api.MaxFuel, api.ErrFull},
		{"without end ahead of too great", "k(k(X))>h(X) " + grows, 9, api.ErrFuel},
		{"false, then one without end", "b>c b>d g(g(X))>l(X) l(X)>l(X)", 9, api.OK},
		{"false, then one that is too great", "b>c b>d g(g(X))>h(X) " + grows, api.MaxFuel, api.OK},
		{"one without end, then false", "g(g(X))>l(X) l(X)>l(X) b>c b>d", 9, api.ErrFuel},
		{"one that is too great, then false", "g(g(X))>h(X) b>c b>d " + grows, api.MaxFuel, api.ErrFull},
	} {
		ok, e := Join(rulesOf(t, c.rules), c.fuel)
		if ok || e != c.e {
			t.Errorf("%s: %v, error %d, want %d", c.what, ok, e, c.e)
		}
	}
}

// Pairs may have more knots than a term that is given: they are worked out, though.
func TestH2TermsOfAnySize(t *testing.T) {
	all := knot("f")
	for i := range 118 {
		all.Args = append(all.Args, knot("X"+strconv.Itoa(i)))
	}
	great := sides(0, 0)
	if ok, e := Join(great, 9); ok || e != api.OK {
		t.Errorf("MaxGrown knots that don't meet: %v, error %d", ok, e)
	}
	meets := append(great[:2:2], rule(all, knot("c")), rule(knot("k", knot("c"), knot("Y")), knot("c")))
	if ok, e := Join(meets, 1); !ok || e != api.OK {
		t.Errorf("MaxGrown knots that meet: %v, error %d", ok, e)
	}
	if ok, e := Join(meets, 0); ok || e != api.ErrFuel {
		t.Errorf("MaxGrown knots by no step: %v, error %d", ok, e)
	}
}

// 40 rules of which each has a pair with most places of each other one, of great
// terms: nothing takes long.
func TestZ1EndsSoon(t *testing.T) {
	var rules []api.Pair
	for i := range api.MaxList {
		left := knot("f", tower(150, knot("X")), tower(i, knot("Y")))
		rules = append(rules, rule(left, tower(140, knot("X"))))
	}
	refused(t, "pairs at the whole", rules, api.ErrLimit)
	for i := range rules {
		rules[i] = rule(tower(199, knot("a"+strconv.Itoa(i))), tower(199, knot("b")))
	}
	l, e := Pairs(rules)
	if len(l) != 0 || e != api.OK {
		t.Errorf("towers that clash at last: %d pairs, error %d", len(l), e)
	}
}

func TestZ2FreshMemory(t *testing.T) {
	rules := rulesOf(t, "f(f(X,Y),Z)>f(X,f(Y,Z)) f(h(X),Y)>h(f(X,Y))")
	was := textOfPairs(rules)
	l, e := Pairs(rules)
	if len(l) < 2 || e != api.OK {
		t.Fatalf("%d pairs, error %d", len(l), e)
	}
	texts := make([]string, len(l))
	for i := range l {
		texts[i] = textOfPairs(l[i : i+1])
	}
	for i := range l {
		right := textOf(l[i].Right)
		sample.Spoil(l[i].Left)
		if textOf(l[i].Right) != right {
			t.Errorf("pair %d: both sides share memory", i)
		}
		sample.Spoil(l[i].Right)
		for j := i + 1; j < len(l); j++ {
			if textOfPairs(l[j:j+1]) != texts[j] {
				t.Errorf("pairs %d and %d share memory", i, j)
			}
		}
	}
	if textOfPairs(rules) != was {
		t.Errorf("written into: %s", textOfPairs(rules))
	}
	l, _ = Pairs(rules)
	for _, r := range rules {
		sample.Spoil(r.Left)
		sample.Spoil(r.Right)
	}
	if textOfPairs(l[:1]) != texts[0] {
		t.Errorf("shares memory with what was given: %s", textOfPairs(l[:1]))
	}
}

func TestZ2NothingBeyond(t *testing.T) {
	rules := rulesOf(t, "h(h(X))>X h(a)>b")
	l, e := Pairs(rules[:1])
	if textOfPairs(l) != "h(Z1)>h(Z1)" || e != api.OK {
		t.Errorf("Pairs: %s, error %d", textOfPairs(l), e)
	}
	if ok, e := Join(rules[:1], 9); !ok || e != api.OK {
		t.Errorf("Join: %v, error %d", ok, e)
	}
	if textOfPairs(rules[1:]) != "h(a)>b" {
		t.Errorf("written into: %s", textOfPairs(rules))
	}
}
