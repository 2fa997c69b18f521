package rewrite

import (
	"strconv"
	"strings"
	"testing"

	"metaprune/api"
	"metaprune/sample"
	"metaprune/term"
)

var (
	knot   = sample.Knot
	broad  = sample.Broad
	tower  = sample.Tower
	textOf = sample.Text
)

func parsed(t *testing.T, text string) api.Term {
	t.Helper()
	x, e := term.Parse(text)
	if e != api.OK {
		t.Fatalf("Parse(%q): error %d", text, e)
	}
	return x
}

// rulesOf reads rules, "h(h(X))>X f(a,X)>X".
func rulesOf(t *testing.T, text string) []api.Pair {
	t.Helper()
	var l []api.Pair
	for _, w := range strings.Fields(text) {
		left, right, _ := strings.Cut(w, ">")
		l = append(l, api.Pair{Left: parsed(t, left), Right: parsed(t, right)})
	}
	return l
}

func textOfRules(rules []api.Pair) string {
	var out []string
	for _, r := range rules {
		out = append(out, textOf(r.Left)+">"+textOf(r.Right))
	}
	return strings.Join(out, " ")
}

func textOfAll(l []api.Term) string { return strings.Join(sample.Texts(l), " ") }

// many are so many rules, of a0, a1, .. to b.
func many(n int) []api.Pair {
	var l []api.Pair
	for i := range n {
		l = append(l, api.Pair{Left: knot("a" + strconv.Itoa(i)), Right: knot("b")})
	}
	return l
}

func isNone(t api.Term) bool { return t.Name == "" && len(t.Args) == 0 }

// refused: all calls but Check say this error, and nothing else.
func refused(t *testing.T, what string, rules []api.Pair, x api.Term, most int, want api.Errno) {
	t.Helper()
	if y, n, e := Inner(rules, x, most); !isNone(y) || n != 0 || e != want {
		t.Errorf("Inner, %s: %s %d, error %d, want %d", what, textOf(y), n, e, want)
	}
	if y, n, e := Outer(rules, x, most); !isNone(y) || n != 0 || e != want {
		t.Errorf("Outer, %s: %s %d, error %d, want %d", what, textOf(y), n, e, want)
	}
	if ok, e := Meet(rules, x, knot("b"), most); ok || e != want {
		t.Errorf("Meet, %s: %v, error %d, want %d", what, ok, e, want)
	}
}

// refusedUncounted: Steps and Reach say it, too.
func refusedUncounted(t *testing.T, what string, rules []api.Pair, x api.Term, want api.Errno) {
	t.Helper()
	if l, e := Steps(rules, x); len(l) != 0 || e != want {
		t.Errorf("Steps, %s: %s, error %d, want %d", what, textOfAll(l), e, want)
	}
	if l, e := Reach(rules, x); len(l) != 0 || e != want {
		t.Errorf("Reach, %s: %v, error %d, want %d", what, l, e, want)
	}
}

func TestG1RulesThatMayBe(t *testing.T) {
	most := broad(api.MaxNodes-1, knot("X"))
	for what, rules := range map[string][]api.Pair{
		"none":                   nil,
		"an empty list":          {},
		"some":                   rulesOf(t, "f(a,X)>X f(h(X),Y)>h(f(X,Y)) a>b"),
		"one that does nothing":  rulesOf(t, "h(X)>h(X)"),
		"right of one variable":  rulesOf(t, "f(X,Y)>Y"),
		"MaxList":                many(api.MaxList),
		"MaxNodes on both sides": {{Left: most, Right: most}},
	} {
		if e := Check(rules); e != api.OK {
			t.Errorf("Check of %s: error %d", what, e)
		}
	}
}

func TestG1RulesThatMayNotBe(t *testing.T) {
	a, form, over := knot("a"), knot("f", knot("X", knot("a"))), broad(api.MaxNodes, knot("a"))
	rule := func(x, y api.Term) api.Pair { return api.Pair{Left: x, Right: y} }
	bad := many(api.MaxList + 1)
	bad[0].Left = knot("")
	variable, open := rule(knot("X"), a), rule(knot("h", knot("X")), knot("Y"))
	for _, c := range []struct {
		what  string
		rules []api.Pair
		e     api.Errno
	}{
		{"MaxList + 1", many(api.MaxList + 1), api.ErrLimit},
		{"MaxList + 1, of which the first is wrong", bad, api.ErrLimit},
		{"an empty rule", []api.Pair{{}}, api.ErrName},
		{"a variable on the left", []api.Pair{variable}, api.ErrForm},
		{"a variable to itself", []api.Pair{rule(knot("X"), knot("X"))}, api.ErrForm},
		{"a variable on the right alone", []api.Pair{open}, api.ErrOpen},
		{"one of two within", []api.Pair{rule(knot("f", knot("X"), a), knot("g", knot("X"), knot("h", knot("Y"))))}, api.ErrOpen},
		{"nearly the same name", []api.Pair{rule(knot("h", knot("X1")), knot("h", knot("X")))}, api.ErrOpen},
		{"the last of MaxList", append(many(api.MaxList-1), open), api.ErrOpen},

		{"the left ahead of the right", []api.Pair{rule(form, over)}, api.ErrForm},
		{"the left ahead of the right, turned", []api.Pair{rule(over, form)}, api.ErrLimit},
		{"the right ahead of a variable on the left", []api.Pair{rule(knot("X"), over)}, api.ErrLimit},
		{"a wrong name ahead of a variable on the left", []api.Pair{rule(knot("X"), knot("f", knot("Y"), knot("")))}, api.ErrName},
		{"a variable on the left ahead of one on the right alone", []api.Pair{rule(knot("X"), knot("Y"))}, api.ErrForm},
		{"the first one", []api.Pair{open, variable, rule(over, a)}, api.ErrOpen},
		{"the second one", []api.Pair{rule(a, a), variable, open}, api.ErrForm},
	} {
		if e := Check(c.rules); e != c.e {
			t.Errorf("Check of %s: error %d, want %d", c.what, e, c.e)
		}
		refused(t, c.what, c.rules, knot("b"), 9, c.e)
		refused(t, c.what+", ahead of the term", c.rules, knot(""), 9, c.e)
		refused(t, c.what+", ahead of how many", c.rules, knot("b"), -1, c.e)
		refusedUncounted(t, c.what, c.rules, knot("b"), c.e)
		refusedUncounted(t, c.what+", ahead of the term", c.rules, knot(""), c.e)
	}
}

func TestG1SidesThatMayNotBe(t *testing.T) {
	for _, w := range sample.Wrongs() {
		for _, r := range []api.Pair{{Left: w.Term, Right: knot("a")}, {Left: knot("a"), Right: w.Term}} {
			if e := Check([]api.Pair{r}); e != w.Errno {
				t.Errorf("Check, %s: error %d, want %d", w.What, e, w.Errno)
			}
		}
	}
}

func TestG1AllCallsCheckTheTerms(t *testing.T) {
	rules, endless := rulesOf(t, "h(X)>X"), rulesOf(t, "a>a")
	for _, w := range sample.Wrongs() {
		refused(t, w.What, rules, w.Term, 9, w.Errno)
		refused(t, w.What+", ahead of how many", rules, w.Term, api.MaxFuel+1, w.Errno)
		refusedUncounted(t, w.What, rules, w.Term, w.Errno)
		for what, a := range map[string]api.Term{"one": knot("b"), "one that comes to no end": knot("a")} {
			if ok, e := Meet(endless, a, w.Term, 9); ok || e != w.Errno {
				t.Errorf("Meet of %s and %s: %v, error %d", what, w.What, ok, e)
			}
		}
		if ok, e := Meet(rules, w.Term, knot("f", knot("X", knot("a"))), 9); ok || e != w.Errno {
			t.Errorf("Meet, %s ahead of the second: %v, error %d", w.What, ok, e)
		}
		if ok, e := Meet(rules, knot("a"), w.Term, -1); ok || e != w.Errno {
			t.Errorf("Meet, %s ahead of how many: %v, error %d", w.What, ok, e)
		}
	}
}

func TestG1HowManySteps(t *testing.T) {
	rules := rulesOf(t, "h(X)>X")
	for _, most := range []int{-1, api.MaxFuel + 1, -1 << 63, 1<<63 - 1} {
		refused(t, strconv.Itoa(most), rules, knot("a"), most, api.ErrPlace)
		refused(t, strconv.Itoa(most), rules, knot("h", knot("a")), most, api.ErrPlace)
	}
	for _, most := range []int{0, 1, api.MaxFuel} {
		if y, n, e := Inner(rules, knot("a"), most); textOf(y) != "a" || n != 0 || e != api.OK {
			t.Errorf("Inner, %d: %s %d, error %d", most, textOf(y), n, e)
		}
		if y, n, e := Outer(rules, knot("a"), most); textOf(y) != "a" || n != 0 || e != api.OK {
			t.Errorf("Outer, %d: %s %d, error %d", most, textOf(y), n, e)
		}
		if ok, e := Meet(rules, knot("a"), knot("a"), most); !ok || e != api.OK {
			t.Errorf("Meet, %d: %v, error %d", most, ok, e)
		}
	}
}

func TestG2Steps(t *testing.T) {
	for _, c := range []struct{ rules, t, want string }{
		{"", "f(a,b)", ""},
		{"h(X)>X", "f(a,b)", ""},
		{"h(X)>X", "X", ""},
		{"h(X)>X", "h(X)", "X"},
		{"a>b", "a", "b"},
		{"a>b", "f(a,a)", "f(b,a) f(a,b)"},
		{"a>b", "f(h(a),a)", "f(h(b),a) f(h(a),b)"},
		{"a>b", "a(a)", "a(b)"},
		{"f(a,X)>X f(h(X),Y)>h(f(X,Y))", "f(h(a),b)", "h(f(a,b))"},
		{"h(a)>b h(a)>c", "f(h(a),h(a))", "f(b,h(a)) f(c,h(a)) f(h(a),b) f(h(a),c)"},
		{"h(a)>b h(X)>X", "h(h(a))", "h(a) h(b) h(a)"},
		{"h(X)>X h(a)>b", "h(h(a))", "h(a) h(a) h(b)"},
		{"a>b f(X,Y)>Y", "f(a,f(a,a))", "f(a,a) f(b,f(a,a)) f(a,a) f(a,f(b,a)) f(a,f(a,b))"},
		{"f(X,X)>X", "f(f(a,b),f(a,b))", "f(a,b)"},
		{"f(X,X)>X", "f(f(a,b),f(b,a))", ""},
		{"f(X,X)>X", "f(X,Y)", ""},
		{"f(X,X)>X", "f(Y,Y)", "Y"},
		{"f(X,Y)>g(Y,X,Y)", "f(h(Y),X)", "g(X,h(Y),X)"},
		{"f(X,Y)>f(Y,X)", "f(Y,X)", "f(X,Y)"},
		{"h(X)>h(X)", "h(a)", "h(a)"},
		{"h(X)>a", "h(h(X))", "a h(a)"},
		{"h(X)>X", "h(a,b)", ""},
		{"f(a)>b", "f(X)", ""},
		{"a>f(b,b)", "g(c,a,c)", "g(c,f(b,b),c)"},
	} {
		l, e := Steps(rulesOf(t, c.rules), parsed(t, c.t))
		if textOfAll(l) != c.want || e != api.OK {
			t.Errorf("Steps, %s: %s: %s, error %d, want %s", c.rules, c.t, textOfAll(l), e, c.want)
		}
	}
}

// grows: its step makes of h above a term of 100 knots one of MaxGrown knots and so
// many more; in the second half of it X stands nowhere.
func grows(more int) api.Pair {
	right := broad(19, knot("X"))
	for range api.MaxGrown - 1901 + more {
		right.Args = append(right.Args, knot("a"))
	}
	return api.Pair{Left: knot("h", knot("X")), Right: right}
}

// hundred has so many knots.
func hundred() api.Term { return broad(99, knot("b")) }

func TestG2StepsGrow(t *testing.T) {
	x := knot("h", hundred())
	within := knot("g", knot("c"), x)
	for _, c := range []struct {
		what  string
		rules []api.Pair
		t     api.Term
		many  int
		e     api.Errno
	}{
		{"MaxGrown", []api.Pair{grows(0)}, x, 1, api.OK},
		{"one more", []api.Pair{grows(1)}, x, 0, api.ErrFull},
		{"MaxGrown, within a term", []api.Pair{grows(-2)}, within, 1, api.OK},
		{"one more, within a term", []api.Pair{grows(-1)}, within, 0, api.ErrFull},
		{"one more, behind others", append(rulesOf(t, "c>b h(X)>X"), grows(-1)), within, 0, api.ErrFull},
		{"one more, ahead of others", append([]api.Pair{grows(-1)}, rulesOf(t, "c>b h(X)>X")...), within, 0, api.ErrFull},
		{"MaxGrown, and others", append(rulesOf(t, "c>b h(X)>X"), grows(-2)), within, 3, api.OK},
	} {
		l, e := Steps(c.rules, c.t)
		if len(l) != c.many || e != c.e {
			t.Errorf("Steps, %s: %d terms, error %d, want %d and %d", c.what, len(l), e, c.many, c.e)
		}
		if c.many > 0 && sample.Count(l[c.many-1]) != api.MaxGrown {
			t.Errorf("Steps, %s: %d knots", c.what, sample.Count(l[c.many-1]))
		}
	}
}

// As many steps as there can be: MaxNodes - 1 places by MaxList rules.
func TestG2ManySteps(t *testing.T) {
	var rules []api.Pair
	for i := range api.MaxList {
		rules = append(rules, api.Pair{Left: knot("a"), Right: knot("b" + strconv.Itoa(i))})
	}
	l, e := Steps(rules, broad(api.MaxNodes-1, knot("a")))
	if len(l) != (api.MaxNodes-1)*api.MaxList || e != api.OK {
		t.Fatalf("%d terms, error %d", len(l), e)
	}
	for i, x := range l {
		place, rule := i/api.MaxList, i%api.MaxList
		if x.Args[place].Name != "b"+strconv.Itoa(rule) || strings.Count(textOf(x), "b") != 1 {
			t.Fatalf("step %d: %s", i, textOf(x))
		}
	}
}

func TestG3InnerAndOuter(t *testing.T) {
	plus := "f(a,X)>X f(h(X),Y)>h(f(X,Y))"
	for _, c := range []struct{ rules, t, inner, outer string }{
		{"", "f(a,X)", "0 f(a,X)", "0 f(a,X)"},
		{plus, "f(h(h(a)),b)", "3 h(h(b))", "3 h(h(b))"},
		{plus, "f(f(h(a),h(a)),h(a))", "5 h(h(h(a)))", "5 h(h(h(a)))"},
		{"f(f(X,Y),Z)>f(X,f(Y,Z))", "f(f(f(a,b),c),d)", "3 f(a,f(b,f(c,d)))", "2 f(a,f(b,f(c,d)))"},
		{"h(X)>f(X,X) a>b", "h(a)", "2 f(b,b)", "3 f(b,b)"},
		{"h(X)>c a>b", "h(a)", "2 c", "1 c"},
		{"h(X)>c a>b", "h(h(h(a)))", "4 c", "1 c"},
		{"h(a)>c a>b", "h(a)", "1 h(b)", "1 c"},
		{"a>b a>c", "f(a,a)", "2 f(b,b)", "2 f(b,b)"},
		{"a>c a>b", "f(a,a)", "2 f(c,c)", "2 f(c,c)"},
		{"f(X,b)>c a>b", "f(a,a)", "3 c", "3 c"},
		{"f(b,X)>c a>b", "f(a,a)", "3 c", "2 c"},
		{"f(b,a)>c f(a,b)>d a>b", "f(a,a)", "2 f(b,b)", "2 c"},
		{"f(X,X)>X a>b", "f(a,a)", "3 b", "2 b"},
		{"f(X,X)>X a>b", "f(a,b)", "2 b", "2 b"},
		{"g(h(X),Y)>Y h(a)>b", "g(h(a),c)", "1 g(b,c)", "1 c"},
		{"h(h(X))>X", "h(h(h(h(h(b)))))", "2 h(b)", "2 h(b)"},
		{"h(X)>X", "X", "0 X", "0 X"},
		{"h(k(X))>k(h(X))", "h(h(k(k(X))))", "4 k(k(h(h(X))))", "4 k(k(h(h(X))))"},
	} {
		rules, x := rulesOf(t, c.rules), parsed(t, c.t)
		if y, n, e := Inner(rules, x, 20); strconv.Itoa(n)+" "+textOf(y) != c.inner || e != api.OK {
			t.Errorf("Inner, %s: %s: %d %s, error %d, want %s", c.rules, c.t, n, textOf(y), e, c.inner)
		}
		if y, n, e := Outer(rules, x, 20); strconv.Itoa(n)+" "+textOf(y) != c.outer || e != api.OK {
			t.Errorf("Outer, %s: %s: %d %s, error %d, want %s", c.rules, c.t, n, textOf(y), e, c.outer)
		}
	}
}

// How far it comes tells which steps are done first.
func TestG3OneComesToAnEndTheOtherDoesNot(t *testing.T) {
	for _, c := range []struct {
		rules, t     string
		inner, outer api.Errno
	}{
		{"a>a", "a", api.ErrFuel, api.ErrFuel},
		{"a>a h(X)>b", "h(a)", api.ErrFuel, api.OK},
		{"f(X,Y)>Y a>a", "f(a,b)", api.ErrFuel, api.OK},
		{"h(b)>b a>a", "f(h(b),a)", api.ErrFuel, api.ErrFuel},
		{"f(X,Y)>f(Y,X)", "f(a,b)", api.ErrFuel, api.ErrFuel},
		{"h(a)>h(a) a>b", "h(a)", api.OK, api.ErrFuel},
	} {
		rules, x := rulesOf(t, c.rules), parsed(t, c.t)
		for _, most := range []int{5, api.MaxFuel} {
			if _, _, e := Inner(rules, x, most); e != c.inner {
				t.Errorf("Inner, %s: %s: error %d, want %d", c.rules, c.t, e, c.inner)
			}
			if _, _, e := Outer(rules, x, most); e != c.outer {
				t.Errorf("Outer, %s: %s: error %d, want %d", c.rules, c.t, e, c.outer)
			}
		}
	}
}

// lifted takes many by high steps: each h goes above each f.
func lifted(many, high int) api.Term {
	x := tower(many, knot("a"))
	for range high {
		x = knot("f", x, knot("b"))
	}
	return x
}

func TestG3Fuel(t *testing.T) {
	rules := rulesOf(t, "f(h(X),Y)>h(f(X,Y)) k(X)>X")
	full := knot("g", lifted(20, 20), knot("c"))
	for _, c := range []struct {
		what        string
		t           api.Term
		most, steps int
		e           api.Errno
	}{
		{"none to do, none given", knot("a"), 0, 0, api.OK},
		{"one to do, none given", parsed(t, "k(a)"), 0, 0, api.ErrFuel},
		{"one to do, one given", parsed(t, "k(a)"), 1, 1, api.OK},
		{"six to do, five given", lifted(3, 2), 5, 0, api.ErrFuel},
		{"six to do, six given", lifted(3, 2), 6, 6, api.OK},
		{"six to do, seven given", lifted(3, 2), 7, 6, api.OK},
		{"MaxFuel to do", full, api.MaxFuel, api.MaxFuel, api.OK},
		{"MaxFuel to do, one fewer given", full, api.MaxFuel - 1, 0, api.ErrFuel},
		{"MaxFuel + 1 to do", knot("g", lifted(20, 20), parsed(t, "k(c)")), api.MaxFuel, 0, api.ErrFuel},
	} {
		for what, call := range map[string]func([]api.Pair, api.Term, int) (api.Term, int, api.Errno){"Inner": Inner, "Outer": Outer} {
			y, n, e := call(rules, c.t, c.most)
			if n != c.steps || e != c.e || isNone(y) != (e != api.OK) {
				t.Errorf("%s, %s: %s %d, error %d, want %d and %d", what, c.what, textOf(y), n, e, c.steps, c.e)
			}
		}
	}
	if y, _, _ := Inner(rules, full, api.MaxFuel); textOf(y) != textOf(knot("g", tower(20, lifted(0, 20)), knot("c"))) {
		t.Errorf("Inner: %s", textOf(y))
	}
}

func TestG3Full(t *testing.T) {
	x := knot("h", hundred())
	two := rulesOf(t, "k(X)>X")
	for _, c := range []struct {
		what  string
		rules []api.Pair
		t     api.Term
		most  int
		e     api.Errno
	}{
		{"MaxGrown", []api.Pair{grows(0)}, x, 1, api.OK},
		{"one more", []api.Pair{grows(1)}, x, 1, api.ErrFull},
		{"MaxGrown, within a term", []api.Pair{grows(-2)}, knot("g", x, knot("c")), 1, api.OK},
		{"one more, within a term", []api.Pair{grows(-1)}, knot("g", x, knot("c")), 1, api.ErrFull},
		{"one more, though the next step would make it less", append(two, grows(0)), knot("g", x, knot("k", knot("c"))), 9, api.ErrFull},
		{"one more, by the step for which there is none left", []api.Pair{grows(1)}, x, 0, api.ErrFuel},
		{"one more, by the second step", append(two, grows(-1)), knot("g", knot("k", knot("c")), x), 2, api.ErrFull},
		{"one more, by the second step, for which there is none left", append(two, grows(-1)), knot("g", knot("k", knot("c")), x), 1, api.ErrFuel},
		{"one more, by the last of the steps, with one to do", append(two, grows(-1)), knot("g", x, knot("k", knot("c"))), 1, api.ErrFull},
	} {
		for what, call := range map[string]func([]api.Pair, api.Term, int) (api.Term, int, api.Errno){"Inner": Inner, "Outer": Outer} {
			y, n, e := call(c.rules, c.t, c.most)
			if e != c.e || isNone(y) != (e != api.OK) || e == api.OK && (n != 1 || sample.Count(y) != api.MaxGrown) {
				t.Errorf("%s, %s: %d steps, error %d, want %d", what, c.what, n, e, c.e)
			}
		}
		if ok, e := Meet(c.rules, c.t, c.t, c.most); ok != (c.e == api.OK) || e != c.e {
			t.Errorf("Meet, %s: %v, error %d, want %d", c.what, ok, e, c.e)
		}
	}
}

// A great part of the term is held against many great rules, and nothing fits
// there: that is seen once, not at each step.
func TestZ1WorkEndsSoon(t *testing.T) {
	rules := rulesOf(t, "k(X)>k(X)")
	rules = append(rules, api.Pair{Left: knot("m", knot("X")), Right: tower(199, knot("X"))})
	for len(rules) < api.MaxList {
		rules = append(rules, api.Pair{Left: tower(198, knot("z")), Right: knot("a")})
	}
	x := knot("a")
	for range 9 {
		x = knot("m", x)
	}
	refused(t, "endless steps behind a great part", rules, knot("g", x, parsed(t, "k(a)")), api.MaxFuel, api.ErrFuel)
}

func TestG3Meet(t *testing.T) {
	for _, c := range []struct {
		rules, a, b string
		want        bool
		e           api.Errno
	}{
		{"", "a", "a", true, api.OK},
		{"", "a", "b", false, api.OK},
		{"", "X", "Y", false, api.OK},
		{"h(h(X))>X", "h(h(a))", "h(h(h(h(a))))", true, api.OK},
		{"h(h(X))>X", "h(a)", "h(h(a))", false, api.OK},
		{"f(a,X)>X f(h(X),Y)>h(f(X,Y))", "f(h(a),h(h(a)))", "f(h(h(a)),h(a))", true, api.OK},
		{"h(a)>b h(a)>c", "h(a)", "c", false, api.OK},
		{"h(a)>c a>b", "h(a)", "h(b)", true, api.OK},
		{"h(a)>c a>b", "h(a)", "c", false, api.OK},
		{"k(X)>k(X)", "k(a)", "k(a)", false, api.ErrFuel},
		{"k(X)>k(X)", "a", "k(a)", false, api.ErrFuel},
		{"k(X)>k(X)", "a", "b", false, api.OK},
	} {
		if ok, e := Meet(rulesOf(t, c.rules), parsed(t, c.a), parsed(t, c.b), 9); ok != c.want || e != c.e {
			t.Errorf("Meet, %s: %s and %s: %v, error %d, want %v and %d", c.rules, c.a, c.b, ok, e, c.want, c.e)
		}
	}
}

// Of both terms the first one's error is told, and each has all the steps.
func TestG3MeetOfBoth(t *testing.T) {
	rules := append(rulesOf(t, "a>a k(X)>X"), grows(1))
	endless, full := knot("a"), knot("h", hundred())
	for _, c := range []struct {
		what string
		a, b api.Term
		most int
		want bool
		e    api.Errno
	}{
		{"endless ahead of full", endless, full, 9, false, api.ErrFuel},
		{"full ahead of endless", full, endless, 9, false, api.ErrFull},
		{"three steps each", parsed(t, "k(k(k(b)))"), parsed(t, "k(k(k(b)))"), 3, true, api.OK},
		{"three steps and four", parsed(t, "k(k(k(b)))"), parsed(t, "k(k(k(k(b))))"), 3, false, api.ErrFuel},
	} {
		if ok, e := Meet(rules, c.a, c.b, c.most); ok != c.want || e != c.e {
			t.Errorf("Meet, %s: %v, error %d, want %v and %d", c.what, ok, e, c.want, c.e)
		}
	}
}

func TestG4Reach(t *testing.T) {
	for _, c := range []struct{ rules, t, want string }{
		{"", "f(a,X)", "f(a,X)"},
		{"f(a,X)>X f(h(X),Y)>h(f(X,Y))", "f(h(a),b)", "f(h(a),b) h(b) h(f(a,b))"},
		{"a>a", "a", "a"},
		{"a>b b>a", "a", "a b"},
		{"b>a a>c", "b", "a b c"},
		{"f(X,Y)>f(Y,X)", "f(b,a)", "f(a,b) f(b,a)"},
		{"a>b", "f(a,a)", "f(a,a) f(a,b) f(b,a) f(b,b)"},
		{"h(a)>b h(a)>c", "h(a)", "b c h(a)"},
		{"h(X)>X", "h(h(Y))", "Y h(Y) h(h(Y))"},
		{"h(X)>f(X,X) a>b", "h(a)", "f(a,a) f(a,b) f(b,a) f(b,b) h(a) h(b)"},
		{"a>a1 a>a10 a>a2 a>aB a>aa", "a", "a a1 a10 a2 aB aa"},
		{"h(X)>c a>a", "h(a)", "c h(a)"},
	} {
		l, e := Reach(rulesOf(t, c.rules), parsed(t, c.t))
		if strings.Join(l, " ") != c.want || e != api.OK {
			t.Errorf("Reach, %s: %s: %v, error %d, want %s", c.rules, c.t, l, e, c.want)
		}
	}
}

// counters has two of them, of so many states each.
func counters(first, second int) api.Term {
	return knot("f", knot("k", tower(first-1, knot("a"))), knot("k", tower(second-1, knot("a"))))
}

func TestG4HowMany(t *testing.T) {
	down, up := rulesOf(t, "k(h(X))>k(X)"), rulesOf(t, "k(X)>k(h(X))")
	for _, c := range []struct {
		what  string
		rules []api.Pair
		t     api.Term
		many  int
		e     api.Errno
	}{
		{"190", down, counters(190, 1), 190, api.OK},
		{"200", down, counters(25, 8), 200, api.OK},
		{"201", down, counters(67, 3), 0, api.ErrLimit},
		{"ever more", up, knot("k", knot("a")), 0, api.ErrLimit},
		{"ever more, but for the limit of knots", up, knot("k", tower(150, knot("a"))), 0, api.ErrLimit},
	} {
		l, e := Reach(c.rules, c.t)
		if len(l) != c.many || e != c.e {
			t.Errorf("Reach, %s: %d terms, error %d, want %d and %d", c.what, len(l), e, c.many, c.e)
		}
	}
}

// Of each term that comes Steps says what it says of one that is given: so it
// may have MaxNodes knots, not more.
func TestG4TermsThatComeAreChecked(t *testing.T) {
	for _, c := range []struct {
		what string
		more int
		many int
		e    api.Errno
	}{
		{"MaxNodes", 0, 2, api.OK},
		{"one more", 1, 0, api.ErrLimit},
	} {
		rules := []api.Pair{{Left: knot("a"), Right: broad(api.MaxNodes-3+c.more, knot("b"))}}
		l, e := Reach(rules, parsed(t, "g(a,b)"))
		if len(l) != c.many || e != c.e {
			t.Errorf("Reach, %s: %d terms, error %d, want %d and %d", c.what, len(l), e, c.many, c.e)
		}
	}
}

func TestG4TheFirstErrorCounts(t *testing.T) {
	full := api.Pair{Left: knot("c"), Right: knot("h", hundred())}
	great := api.Pair{Left: knot("d"), Right: broad(api.MaxNodes-1, knot("b"))}
	rules := append(rulesOf(t, "a>b a>b1 a>b2"), full, great, grows(1))
	for _, c := range []struct {
		what string
		t    api.Term
		e    api.Errno
	}{
		{"a step of the term itself is too great", knot("h", hundred()), api.ErrFull},
		{"a step of one that comes is", knot("c"), api.ErrFull},
		{"it comes ahead of one that has too many knots", parsed(t, "g(c,d)"), api.ErrFull},
		{"it comes behind one that has too many knots", parsed(t, "g(d,c)"), api.ErrLimit},
		{"it comes behind too many terms", knot("g", broad(70, knot("a")), knot("c")), api.ErrLimit},
		{"it is one of too many", knot("g", broad(70, knot("a")), knot("h", hundred())), api.ErrFull},
	} {
		if l, e := Reach(rules, c.t); len(l) != 0 || e != c.e {
			t.Errorf("Reach, %s: %d terms, error %d, want %d", c.what, len(l), e, c.e)
		}
	}
}

func TestZ2FreshMemory(t *testing.T) {
	rules := rulesOf(t, "h(X)>g(X,k(a,b),X) c>f(a,b)")
	x := parsed(t, "f(h(g(a,b)),c,g(b,a))")
	was, wasRules := textOf(x), textOfRules(rules)
	unchanged := func(what string) {
		t.Helper()
		if textOf(x) != was || textOfRules(rules) != wasRules {
			t.Fatalf("%s: written into: %s, %s", what, textOf(x), textOfRules(rules))
		}
	}
	l, e := Steps(rules, x)
	want := "f(g(g(a,b),k(a,b),g(a,b)),c,g(b,a)) f(h(g(a,b)),f(a,b),g(b,a))"
	if textOfAll(l) != want || e != api.OK {
		t.Fatalf("Steps: %s, error %d", textOfAll(l), e)
	}
	l[0].Args[0].Args[0].Args[0] = knot("spoilt")
	if got := textOf(l[0].Args[0]); got != "g(g(spoilt,b),k(a,b),g(a,b))" {
		t.Errorf("Steps: two parts share memory: %s", got)
	}
	sample.Spoil(l[0])
	if got := textOf(l[1]); got != "f(h(g(a,b)),f(a,b),g(b,a))" {
		t.Errorf("Steps: two terms share memory: %s", got)
	}
	sample.Spoil(l[1])
	unchanged("Steps")
	for what, call := range map[string]func([]api.Pair, api.Term, int) (api.Term, int, api.Errno){"Inner": Inner, "Outer": Outer} {
		y, n, e := call(rules, x, 9)
		if textOf(y) != "f(g(g(a,b),k(a,b),g(a,b)),f(a,b),g(b,a))" || n != 2 || e != api.OK {
			t.Fatalf("%s: %s %d, error %d", what, textOf(y), n, e)
		}
		y.Args[0].Args[0].Args[0] = knot("spoilt")
		if got := textOf(y.Args[0]); got != "g(g(spoilt,b),k(a,b),g(a,b))" {
			t.Errorf("%s: two parts share memory: %s", what, got)
		}
		sample.Spoil(y)
		unchanged(what)
		y, n, e = call(nil, x, 9)
		if textOf(y) != was || n != 0 || e != api.OK {
			t.Fatalf("%s without rules: %s %d, error %d", what, textOf(y), n, e)
		}
		sample.Spoil(y)
		unchanged(what + " without rules")
	}
	if _, e := Reach(rules, x); e != api.OK {
		t.Errorf("Reach: error %d", e)
	}
	unchanged("Reach")
}

func TestZ2NothingBeyond(t *testing.T) {
	rules := append(rulesOf(t, "a>b b>c"), api.Pair{})
	terms := []api.Term{knot("a"), knot("X", knot("a"))}
	x := api.Term{Name: "h", Args: terms[:1]}
	if y, n, e := Inner(rules[:1], x, 9); textOf(y) != "h(b)" || n != 1 || e != api.OK {
		t.Errorf("Inner: %s %d, error %d", textOf(y), n, e)
	}
	if y, n, e := Outer(rules[:1], x, 9); textOf(y) != "h(b)" || n != 1 || e != api.OK {
		t.Errorf("Outer: %s %d, error %d", textOf(y), n, e)
	}
	if l, e := Steps(rules[:1], x); textOfAll(l) != "h(b)" || e != api.OK {
		t.Errorf("Steps: %s, error %d", textOfAll(l), e)
	}
	if textOf(knot("f", terms...)) != "f(a,X(a))" {
		t.Errorf("written into: %v", terms)
	}
}
