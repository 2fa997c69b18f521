package complete

import (
	"slices"
	"strconv"
	"strings"
	"testing"

	"metaprune/api"
	"metaprune/sample"
	"metaprune/term"
)

var (
	knot   = sample.Knot
	broad  = sample.Broad
	tower  = sample.Tower
	textOf = sample.Text
)

func parsed(t *testing.T, text string) api.Term {
	t.Helper()
	x, e := term.Parse(text)
	if e != api.OK {
		t.Fatalf("Parse(%q): error %d", text, e)
	}
	return x
}

// eqsOf reads equations, "h(h(X))=X f(a,X)=X".
func eqsOf(t *testing.T, text string) []api.Pair {
	t.Helper()
	var l []api.Pair
	for _, w := range strings.Fields(text) {
		left, right, _ := strings.Cut(w, "=")
		l = append(l, eq(parsed(t, left), parsed(t, right)))
	}
	return l
}

func textOfRules(l []api.Pair) string {
	var out []string
	for _, p := range l {
		out = append(out, textOf(p.Left)+">"+textOf(p.Right))
	}
	return strings.Join(out, " ")
}

func eq(left, right api.Term) api.Pair { return api.Pair{Left: left, Right: right} }

// turned are equations with their sides the other way round.
func turned(l []api.Pair) []api.Pair {
	var out []api.Pair
	for _, p := range l {
		out = append(out, eq(p.Right, p.Left))
	}
	return out
}

// same are so many equations of which nothing comes.
func same(many int) []api.Pair { return slices.Repeat([]api.Pair{eq(knot("a"), knot("a"))}, many) }

// apart are so many equations that make rules, b0 to a, b1 to a, ..
func apart(many int) []api.Pair {
	var l []api.Pair
	for i := range many {
		l = append(l, eq(knot("b"+strconv.Itoa(i)), knot("a")))
	}
	return l
}

func refused(t *testing.T, what string, row []string, eqs []api.Pair, rounds int, want api.Errno) {
	t.Helper()
	if l, e := Complete(row, eqs, rounds); len(l) != 0 || e != want {
		t.Errorf("%s: %d rules, error %d, want %d", what, len(l), e, want)
	}
}

func made(t *testing.T, what string, row []string, eqs []api.Pair, rounds int, want string) {
	t.Helper()
	if l, e := Complete(row, eqs, rounds); textOfRules(l) != want || e != api.OK {
		t.Errorf("%s: %s, error %d, want %s", what, textOfRules(l), e, want)
	}
}

func TestI1Complete(t *testing.T) {
	for _, c := range []struct{ what, row, eqs, want string }{
		{"none", "", "", ""},
		{"both sides the same", "", "h(X)=h(X)", ""},
		{"the document's own", "", "h(h(h(a)))=a h(h(h(h(h(a)))))=a", "h(a)>a"},
		{"Left above Right", "", "h(a)=a", "h(a)>a"},
		{"Right above Left", "", "a=h(a)", "h(a)>a"},
		{"by the row", "h a", "h(b)=a", "a>h(b)"},
		{"by the row, the other way round", "a h", "a=h(b)", "h(b)>a"},
		{"by names, where the row has neither", "", "b=c", "c>b"},
		{"in their order", "a h", "h(c)=a h(b)=a", "h(c)>a h(b)>a"},
		{"worked out first", "", "h(X)=X k(h(a))=h(h(b))", "h(Z1)>Z1 k(a)>b"},
		{"worked out, and the same", "", "h(X)=X h(k(a))=k(h(a))", "h(Z1)>Z1"},
		{"a variable's own rule", "", "X=h(X)", "h(Z1)>Z1"},
		{"two that move past each other", "k h", "h(h(X))=X h(k(X))=k(h(X))", "h(h(Z1))>Z1 h(k(Z1))>k(h(Z1))"},
		{"a pair more", "k h", "h(h(X))=k(X)", "h(h(Z1))>k(Z1) h(k(Z1))>k(h(Z1))"},
		{"by variables", "", "h(h(h(X)))=X h(h(h(h(h(X)))))=X", "h(Z1)>Z1"},
		{"one of which the others are cases", "", "f(a,b)=b f(a,X)=X", "f(a,Z1)>Z1"},
		{"sums", "n s f", "f(n,X)=X f(s(X),Y)=s(f(X,Y))", "f(n,Z1)>Z1 f(s(Z1),Z2)>s(f(Z1,Z2))"},
	} {
		made(t, c.what, strings.Fields(c.row), eqsOf(t, c.eqs), api.MaxRounds, c.want)
	}
}

// What the rules of a group are comes out, but by more rounds than there may be.
func TestI1Group(t *testing.T) {
	group := eqsOf(t, "f(e,X)=X f(i(X),X)=e f(f(X,Y),Z)=f(X,f(Y,Z))")
	refused(t, "a group", []string{"e", "f", "i"}, group, api.MaxRounds, api.ErrFuel)
}

func TestI1WhatMayNotBe(t *testing.T) {
	row, eqs := []string{"a", "h"}, eqsOf(t, "h(a)=a")
	var long []string
	for i := range api.MaxList + 1 {
		long = append(long, "a"+strconv.Itoa(i))
	}
	for _, w := range sample.Wrongs() {
		bad := []api.Pair{eq(knot("a"), knot("b")), eq(w.Term, knot("a")), eq(knot("a"), w.Term)}
		for _, rounds := range []int{-1, 9} {
			refused(t, w.What+" on the left", row, bad[1:2], rounds, w.Errno)
			refused(t, w.What+" on the right", row, bad[2:], rounds, w.Errno)
			refused(t, w.What+" in the second one", row, bad[:2], rounds, w.Errno)
		}
	}
	many, wrong := same(api.MaxList+1), []api.Pair{{}}
	for _, c := range []struct {
		what   string
		row    []string
		eqs    []api.Pair
		rounds int
		e      api.Errno
	}{
		{"MaxList + 1 in the row", long, eqs, 9, api.ErrLimit},
		{"a variable in the row", []string{"a", "X"}, eqs, 9, api.ErrName},
		{"no name in the row", []string{""}, eqs, 9, api.ErrName},
		{"a name twice in the row", []string{"a", "h", "a"}, eqs, 9, api.ErrTwice},
		{"MaxList + 1 equations", row, many, 9, api.ErrLimit},
		{"MaxList + 1 equations, of which the first is wrong", row, append(wrong, many[1:]...), 9, api.ErrLimit},
		{"the row ahead of equations", []string{"a", "a"}, wrong, -1, api.ErrTwice},
		{"the row ahead of too many equations", []string{"X"}, many, -1, api.ErrName},
		{"the row ahead of rounds", long, eqs, -1, api.ErrLimit},
		{"equations ahead of rounds", row, wrong, -1, api.ErrName},
		{"too many equations ahead of rounds", row, many, api.MaxRounds + 1, api.ErrLimit},
	} {
		refused(t, c.what, c.row, c.eqs, c.rounds, c.e)
	}
	made(t, "MaxList in the row", long[1:], eqs, 9, "h(a)>a")
}

func TestI1HowManyRounds(t *testing.T) {
	for rounds, want := range map[int]api.Errno{-1 << 62: api.ErrPlace, -1: api.ErrPlace, 0: api.OK, api.MaxRounds: api.OK, api.MaxRounds + 1: api.ErrPlace, 1 << 62: api.ErrPlace} {
		refused(t, strconv.Itoa(rounds)+" rounds", nil, nil, rounds, want)
	}
	refused(t, "an equation that can't be in order, and rounds", nil, eqsOf(t, "X=Y"), -1, api.ErrPlace)
}

func TestI1RoundsWorkedOff(t *testing.T) {
	for _, c := range []struct {
		what   string
		eqs    []api.Pair
		rounds int
		e      api.Errno
	}{
		{"none, for one", same(1), 0, api.ErrFuel},
		{"one, for one", same(1), 1, api.OK},
		{"one too few", same(api.MaxList), api.MaxList - 1, api.ErrFuel},
		{"just enough", same(api.MaxList), api.MaxList, api.OK},
		{"ahead of an equation that can't be in order", append(same(1), eqsOf(t, "X=Y")...), 1, api.ErrFuel},
		{"an equation that can't be in order", append(same(1), eqsOf(t, "X=Y")...), 2, api.ErrOrder},
	} {
		refused(t, c.what, nil, c.eqs, c.rounds, c.e)
	}
	row, two := []string{"k", "h"}, eqsOf(t, "h(h(X))=k(X)")
	refused(t, "pairs are to come", row, two, 1, api.ErrFuel)
	refused(t, "pairs are still to come", row, two, 2, api.ErrFuel)
	made(t, "all pairs", row, two, 3, "h(h(Z1))>k(Z1) h(k(Z1))>k(h(Z1))")
}

func TestI1NotInOrder(t *testing.T) {
	for _, text := range []string{
		"X=Y", "X=a", "a=X", "f(X,Y)=f(Y,X)", "h(X)=h(Y)", "h(X)=Y", "h(X)=k(Y)", "f(X,a)=f(Y,h(a))", "h(X)=X h(X)=Y",
		"f(X,Y)=X f(X,Y)=Y",
	} {
		for _, eqs := range [][]api.Pair{eqsOf(t, text), turned(eqsOf(t, text))} {
			refused(t, text, []string{"a", "f", "h"}, eqs, 9, api.ErrOrder)
		}
	}
}

// swells makes of g(x) f(x, x, ..), 40 of x.
func swells() api.Pair { return eq(knot("g", knot("X")), broad(40, knot("X"))) }

func TestI1BothAreWorkedOut(t *testing.T) {
	row := []string{"a", "b", "f", "g", "h"}
	first := append(eqsOf(t, "h(X)=X"), swells())
	fuel, full := tower(101, knot("a")), knot("g", knot("g", knot("g", knot("a"))))
	for _, c := range []struct {
		what        string
		left, right api.Term
		e           api.Errno
	}{
		{"Left by 101 steps", fuel, knot("b"), api.ErrFuel},
		{"Right by 101 steps", knot("b"), fuel, api.ErrFuel},
		{"Left too great", full, knot("b"), api.ErrFull},
		{"Right too great", knot("b"), full, api.ErrFull},
		{"Left ahead of Right", fuel, full, api.ErrFuel},
		{"Left ahead of Right, turned", full, fuel, api.ErrFull},
		{"Right ahead of what can't be in order", knot("X"), fuel, api.ErrFuel},
	} {
		refused(t, c.what, row, append(first[:2:2], eq(c.left, c.right)), 9, c.e)
	}
	hundred := append(eqsOf(t, "h(X)=X"), eq(tower(100, knot("a")), tower(100, knot("b"))))
	made(t, "100 steps each", row, hundred, 9, "h(Z1)>Z1 b>a")
}

func TestI2NamesAsTheyCome(t *testing.T) {
	for _, c := range []struct{ eqs, want string }{
		{"f(Y,g(X,Y))=X", "f(Z1,g(Z2,Z1))>Z2"},
		{"X=f(Y,g(X,Y))", "f(Z1,g(Z2,Z1))>Z2"},
		{"g(Y,X)=f(X,g(Y,X))", "f(Z1,g(Z2,Z1))>g(Z2,Z1)"},
		{"h(Z2)=k(h(Z2),Z1)", "k(h(Z1),Z2)>h(Z1)"},
	} {
		made(t, c.eqs, nil, eqsOf(t, c.eqs), 9, c.want)
	}
}

// twofold makes of g(x) f(x, x); x has 99 knots.
func twofold() (api.Pair, api.Term) {
	return eq(knot("g", knot("X")), knot("f", knot("X"), knot("X"))), broad(98, knot("a"))
}

func TestI2SidesOfARule(t *testing.T) {
	row := []string{"a", "f", "k", "g", "p"}
	first, x := twofold()
	most, over := knot("k", knot("g", x)), knot("k", knot("g", x), knot("a"))
	for _, c := range []struct {
		what        string
		left, right api.Term
		e           api.Errno
	}{
		{"Left of MaxNodes", most, knot("a"), api.OK},
		{"Left of MaxNodes + 1", over, knot("a"), api.ErrFull},
		{"turned, of MaxNodes", knot("a"), most, api.OK},
		{"turned, of MaxNodes + 1", knot("a"), over, api.ErrFull},
		{"Right of MaxNodes", knot("p", x), most, api.OK},
		{"Right of MaxNodes + 1", knot("p", x), over, api.ErrFull},
		{"both the same, of MaxNodes + 1", over, over, api.OK},
		{"not in order, of MaxNodes + 1", knot("X"), over, api.ErrOrder},
	} {
		l, e := Complete(row, []api.Pair{first, eq(c.left, c.right)}, 2)
		if e != c.e || len(l) > 0 != (e == api.OK) {
			t.Errorf("%s: %d rules, error %d, want %d", c.what, len(l), e, c.e)
		}
	}
}

func TestI2RulesBecomeEquations(t *testing.T) {
	row := []string{"a", "b", "c", "h", "g", "k"}
	for _, c := range []struct{ what, eqs, want string }{
		{"in order", "k(h(a))=b g(h(a))=c h(X)=X", "h(Z1)>Z1 k(a)>b g(a)>c"},
		{"in order, turned", "g(h(a))=c k(h(a))=b h(X)=X", "h(Z1)>Z1 g(a)>c k(a)>b"},
		{"behind those to come", "k(h(a))=b h(X)=X g(b)=c", "h(Z1)>Z1 g(b)>c k(a)>b"},
		{"at the whole", "h(h(a))=b h(h(X))=X", "h(h(Z1))>Z1 b>a"},
		{"others stay ahead", "k(a)=a g(h(a))=c k(b)=a h(X)=X", "k(a)>a k(b)>a h(Z1)>Z1 g(a)>c"},
		{"of which nothing comes", "k(h(a))=a k(a)=a h(X)=X", "k(a)>a h(Z1)>Z1"},
	} {
		made(t, c.what, row, eqsOf(t, c.eqs), api.MaxRounds, c.want)
	}
}

func TestI2TooManyRules(t *testing.T) {
	row, two := []string{"k", "h"}, eqsOf(t, "h(h(X))=k(X)")
	l, e := Complete(row, append(apart(api.MaxList-2), two...), api.MaxRounds)
	if len(l) != api.MaxList || e != api.OK {
		t.Errorf("MaxList: %d rules, error %d", len(l), e)
	}
	refused(t, "MaxList + 1", row, append(apart(api.MaxList-1), two...), api.MaxRounds, api.ErrLimit)

	gone := append(append(two, eqsOf(t, "h(k(c))=k(h(c))")...), apart(api.MaxList-2)...)
	l, e = Complete(row, gone, api.MaxRounds)
	if len(l) != api.MaxList || e != api.OK {
		t.Errorf("MaxList and one that goes: %d rules, error %d", len(l), e)
	}
}

// The pair of the first two has a side of MaxNodes + 1 knots, and becomes the last rule.
func TestI2TooGreatAheadOfTooMany(t *testing.T) {
	row, x := []string{"b", "f", "q", "p"}, broad(99, knot("b"))
	eqs := append(eqsOf(t, "p(q(X))=f(X,X)"), eq(knot("q", x), knot("b")))
	refused(t, "MaxList + 1 rules, the last too great", row, append(eqs, apart(api.MaxList-2)...), api.MaxRounds, api.ErrFull)
	eqs[1].Left.Args[0].Args = x.Args[1:]
	refused(t, "MaxList + 1 rules", row, append(eqs, apart(api.MaxList-2)...), api.MaxRounds, api.ErrLimit)
}

func TestI2RightSidesAreWorkedOut(t *testing.T) {
	row := []string{"a", "b", "f", "h", "g", "k", "p"}
	made(t, "one", row, eqsOf(t, "k(a)=h(h(b)) h(X)=X"), 9, "k(a)>b h(Z1)>Z1")
	made(t, "several", row, eqsOf(t, "p(a)=k(h(a)) k(a)=h(h(b)) h(X)=X"), 9, "p(a)>b k(a)>b h(Z1)>Z1")
	made(t, "by an older one behind a step by the new one", row, eqsOf(t, "h(a)=b p(a)=h(g(a)) g(X)=X"), 9, "h(a)>b p(a)>b g(Z1)>Z1")
	made(t, "of the new one", row, eqsOf(t, "h(a)=b p(X)=f(X,h(a))"), 9, "h(a)>b p(Z1)>f(Z1,b)")

	last := eqsOf(t, "h(X)=X")
	made(t, "by 100 steps", row, append([]api.Pair{eq(knot("k", knot("a")), tower(100, knot("b")))}, last...), 9, "k(a)>b h(Z1)>Z1")
	refused(t, "by 101 steps", row, append([]api.Pair{eq(knot("k", knot("a")), tower(101, knot("b")))}, last...), 9, api.ErrFuel)
	full := eq(knot("k", knot("a")), knot("g", knot("g", knot("g", knot("a")))))
	refused(t, "too great for a term", row, []api.Pair{full, swells()}, 9, api.ErrFull)

	grows, x := twofold()
	p, most, over := knot("p", knot("b")), knot("k", knot("g", x)), knot("k", knot("g", x), knot("a"))
	l, e := Complete(row, []api.Pair{eq(p, most), grows}, 9)
	if len(l) != 2 || e != api.OK || sample.Count(l[0].Right) != api.MaxNodes {
		t.Errorf("MaxNodes: %d rules, error %d", len(l), e)
	}
	refused(t, "MaxNodes + 1", row, []api.Pair{eq(p, over), grows}, 9, api.ErrFull)
}

// grown has x at 19 places, and MaxGrown knots and so many more, if x has 100.
func grown(x api.Term, more int) api.Term {
	t := broad(19, x)
	for range api.MaxGrown - 1901 + more {
		t.Args = append(t.Args, knot("a"))
	}
	return t
}

// doubles are two rules of p: what makes their left sides one doubles a variable's
// term so many times.
func doubles(many int) []api.Pair {
	outer, inner := knot("p"), knot("p")
	x := func(i int) api.Term { return knot("X" + strconv.Itoa(i)) }
	for i := range many {
		outer.Args = append(outer.Args, x(i), x(i+1))
		inner.Args = append(inner.Args, knot("g", x(i+1), x(i+1)), x(i+1))
	}
	return []api.Pair{eq(outer, knot("a")), eq(inner, knot("b"))}
}

// A pair that is too great is told in the round that makes it; another one is to
// come behind that.
func TestI2PairsThatAreTooGreat(t *testing.T) {
	row := []string{"a", "b", "c", "f", "g", "h", "k", "p"}
	grows := func(more int) []api.Pair {
		return []api.Pair{
			eq(knot("k", knot("h", knot("X")), knot("Y")), grown(knot("X"), more)),
			eq(knot("h", broad(99, knot("b"))), knot("c")),
		}
	}
	back := func(more int) []api.Pair {
		l := grows(more)
		return []api.Pair{l[1], l[0]}
	}
	for _, c := range []struct {
		what string
		eqs  []api.Pair
		e    api.Errno
	}{
		{"MaxGrown", grows(0), api.ErrFuel},
		{"MaxGrown + 1", grows(1), api.ErrFull},
		{"MaxGrown, the new one outside", back(0), api.ErrFuel},
		{"MaxGrown + 1, the new one outside", back(1), api.ErrFull},
		{"what makes them one", doubles(9), api.ErrFuel},
		{"what makes them one, too great", doubles(10), api.ErrFull},
	} {
		refused(t, c.what, row, c.eqs, 2, c.e)
	}
}

// A pair of more than MaxNodes knots is worked out, and asked which side is above.
func TestI1PairsOfAnySize(t *testing.T) {
	row := []string{"a", "b", "c", "f", "h", "k"}
	eqs := []api.Pair{
		eq(knot("k", knot("h", knot("X")), knot("Y")), grown(knot("X"), 0)),
		eq(knot("h", broad(99, knot("b"))), knot("c")),
	}
	refused(t, "a rule that is too great", row, eqs, 3, api.ErrFull)

	all := knot("f")
	for i := range len(eqs[0].Right.Args) {
		all.Args = append(all.Args, knot("X"+strconv.Itoa(i)))
	}
	flat := append(eqs[:2:2], eq(all, knot("c")))
	want := "k(h(Z1),Z2)>c h(" + textOf(broad(99, knot("b"))) + ")>c " + textOfRules([]api.Pair{named(all, knot("c"))}) + " k(c,Z1)>c"
	made(t, "one that becomes small", row, flat, 9, want)
}

// crowd has 99 places for each of four rules, none of which does a step there, and
// so many equations to come behind these.
func crowd(more int) []api.Pair {
	left := knot("f")
	for i := range 99 {
		left.Args = append(left.Args, knot("h", knot("X"+strconv.Itoa(i))))
	}
	l := []api.Pair{eq(left, knot("a"))}
	for i := range 4 {
		l = append(l, eq(knot("h", knot("k"+strconv.Itoa(i))), knot("a")))
	}
	return append(l, same(more)...)
}

func TestI2TooManyToCome(t *testing.T) {
	refused(t, "400", nil, crowd(4), 5, api.ErrFuel)
	refused(t, "401", nil, crowd(5), 5, api.ErrLimit)
	refused(t, "401, but rounds are worked off", nil, crowd(5), 4, api.ErrFuel)
}

// Great rules that come into each other's way at many places: nothing takes long.
func TestZ1EndsSoon(t *testing.T) {
	var eqs []api.Pair
	for i := range api.MaxList {
		x := knot("h", knot("h", knot("X")))
		for range 60 {
			x = knot("f", x, knot("k"+strconv.Itoa(i)))
		}
		eqs = append(eqs, eq(x, knot("a")))
	}
	for _, row := range [][]string{nil, {"a", "f", "h"}, {"h", "f"}} {
		if _, e := Complete(row, eqs, api.MaxRounds); e == api.ErrOrder {
			t.Errorf("by the row %v: error %d", row, e)
		}
	}
}

func TestZ2FreshMemory(t *testing.T) {
	row, eqs := []string{"k", "h", "g", "f"}, eqsOf(t, "h(h(X))=k(X) g(h(a))=k(k(a)) f(g(Y),g(Y))=h(h(h(b)))")
	was := textOfRules(eqs)
	l, e := Complete(row, eqs, api.MaxRounds)
	if len(l) != 5 || e != api.OK {
		t.Fatalf("%s, error %d", textOfRules(l), e)
	}
	text := textOfRules(l)
	for i := range l {
		right, rest := textOf(l[i].Right), textOfRules(l[i+1:])
		sample.Spoil(l[i].Left)
		if textOf(l[i].Right) != right {
			t.Errorf("rule %d: both sides share memory", i)
		}
		sample.Spoil(l[i].Right)
		if textOfRules(l[i+1:]) != rest {
			t.Errorf("rule %d shares memory with another one", i)
		}
	}
	if textOfRules(eqs) != was || !slices.Equal(row, []string{"k", "h", "g", "f"}) {
		t.Errorf("written into: %v %s", row, textOfRules(eqs))
	}
	l, _ = Complete(row, eqs, api.MaxRounds)
	for i := range eqs {
		sample.Spoil(eqs[i].Left)
		sample.Spoil(eqs[i].Right)
		eqs[i] = eq(knot("spoilt"), knot("spoilt"))
	}
	if textOfRules(l) != text {
		t.Errorf("shares memory with what was given: %s", textOfRules(l))
	}
}

func TestZ2NothingBeyond(t *testing.T) {
	row, eqs := []string{"k", "h", "X"}, eqsOf(t, "h(h(X))=k(X) X=Y b=a")
	made(t, "of longer lists", row[:2], eqs[:1], 9, "h(h(Z1))>k(Z1) h(k(Z1))>k(h(Z1))")
	if textOfRules(eqs) != "h(h(X))>k(X) X>Y b>a" || row[2] != "X" {
		t.Errorf("written into: %v %s", row, textOfRules(eqs))
	}
}
