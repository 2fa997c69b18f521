package comb

import (
	"slices"
	"strings"
	"testing"

	"metaprune/api"
	"metaprune/lambda"
	"metaprune/sample"
	"metaprune/term"
)

var (
	knot   = sample.Knot
	textOf = sample.Text
	bound  = sample.Bound
	konst  = sample.Const
	binder = sample.Binder
)

func parsed(t *testing.T, text string) api.Term {
	t.Helper()
	x, e := term.Parse(text)
	if e != api.OK {
		t.Fatalf("Parse(%q): error %d", text, e)
	}
	return x
}

func parsedLam(t *testing.T, text string) api.Lam {
	t.Helper()
	x, e := lambda.Parse(text, nil)
	if e != api.OK {
		t.Fatalf("Parse(%q): error %d", text, e)
	}
	return x
}

// rows reads a term that is told by rows: `s a (k b)` is ap(ap(s,a),ap(k,b)).
func rows(text string) api.Term {
	text = strings.ReplaceAll(strings.ReplaceAll(text, "(", "( "), ")", " )")
	t, _ := readRow(strings.Fields(text))
	return t
}

func readRow(words []string) (api.Term, []string) {
	var l []api.Term
	for len(words) > 0 && words[0] != ")" {
		x, rest := knot(words[0]), words[1:]
		if words[0] == "(" {
			x, rest = readRow(rest)
			rest = rest[1:]
		}
		l, words = append(l, x), rest
	}
	return applied(l[0], l[1:]...), words
}

// many is a row of so many of x.
func many(n int, x api.Term) api.Term { return applied(x, slices.Repeat([]api.Term{x}, n-1)...) }

func isNone(t api.Term) bool { return t.Name == "" && len(t.Args) == 0 }

func TestRows(t *testing.T) {
	for text, want := range map[string]string{
		"a":               "a",
		"s a b":           "ap(ap(s,a),b)",
		"s (k a) (b (c))": "ap(ap(s,ap(k,a)),ap(b,c))",
	} {
		if got := textOf(rows(text)); got != want {
			t.Errorf("%s: %s, want %s", text, got, want)
		}
	}
}

func TestO1Check(t *testing.T) {
	for text, want := range map[string]api.Errno{
		"a":                   api.OK,
		"X":                   api.OK,
		"ap":                  api.OK,
		"ap(ap,ap)":           api.OK,
		"ap(f,X)":             api.OK,
		"ap(ap(s,X),ap(k,Y))": api.OK,
		"h(a)":                api.ErrForm,
		"f(a,b)":              api.ErrForm,
		"ap(a)":               api.ErrForm,
		"ap(a,b,c)":           api.ErrForm,
		"Ap":                  api.OK,
		"aP(a,b)":             api.ErrForm,
		"ap1(a,b)":            api.ErrForm,
		"ap(h(a),b)":          api.ErrForm,
		"ap(a,h(b))":          api.ErrForm,
		"ap(ap(a,b),ap(c))":   api.ErrForm,
		"ap(ap(a,b,c),d)":     api.ErrForm,
	} {
		if e := Check(parsed(t, text)); e != want {
			t.Errorf("Check of %s: error %d, want %d", text, e, want)
		}
	}
}

// wrongs are terms that may not be here, with what is wrong, and more than that.
func wrongs() []sample.Wrong {
	odd := knot("h", knot("a"))
	return append(sample.Wrongs(),
		sample.Wrong{What: "another symbol with one below", Term: odd, Errno: api.ErrForm},
		sample.Wrong{What: "ap of one", Term: knot("ap", knot("a")), Errno: api.ErrForm},
		sample.Wrong{What: "ap of three", Term: knot("ap", knot("a"), knot("b"), knot("c")), Errno: api.ErrForm},
		sample.Wrong{What: "a variable ap of two", Term: knot("Ap", knot("a"), knot("b")), Errno: api.ErrForm},
		sample.Wrong{What: "another symbol, and behind it a wrong name", Term: knot("ap", odd, knot("")), Errno: api.ErrName},
		sample.Wrong{What: "another symbol of too many", Term: sample.Broad(api.MaxNodes, knot("")), Errno: api.ErrLimit},
		sample.Wrong{What: "MaxNodes + 1 knots, by ap", Term: many(101, knot("a")), Errno: api.ErrLimit},
		sample.Wrong{What: "one that no leaf may be", Term: knot("ap", knot("X"), odd), Errno: api.ErrForm},
	)
}

func TestO1TermsThatMayNotBe(t *testing.T) {
	for _, w := range wrongs() {
		if e := Check(w.Term); e != w.Errno {
			t.Errorf("Check of %s: error %d, want %d", w.What, e, w.Errno)
		}
		if x, e := Bracket("X", w.Term); !isNone(x) || e != w.Errno {
			t.Errorf("Bracket of %s: error %d, want %d", w.What, e, w.Errno)
		}
		if x, e := To(w.Term); !sample.IsNoLam(x) || e != w.Errno {
			t.Errorf("To of %s: error %d, want %d", w.What, e, w.Errno)
		}
		for _, most := range []int{9, 0, -1, api.MaxFuel + 1} {
			if x, n, e := Run(w.Term, most); !isNone(x) || n != 0 || e != w.Errno {
				t.Errorf("Run of %s, at most %d: error %d, want %d", w.What, most, e, w.Errno)
			}
		}
		// Of a wrong v that is said first.
		if x, e := Bracket("x", w.Term); !isNone(x) || e != api.ErrName {
			t.Errorf("Bracket of x, %s: error %d, want %d", w.What, e, api.ErrName)
		}
	}
}

func TestO1TheGreatest(t *testing.T) {
	x := many(100, knot("a"))
	if e := Check(x); e != api.OK {
		t.Errorf("Check: error %d", e)
	}
	if y, e := Bracket("X", x); textOf(y) != textOf(applied(knot("k"), x)) || e != api.OK {
		t.Errorf("Bracket: error %d", e)
	}
	if y, n, e := Run(x, 9); textOf(y) != textOf(x) || n != 0 || e != api.OK {
		t.Errorf("Run: %d, error %d", n, e)
	}
	if y, e := To(many(100, knot("c1"))); sample.LamText(y) != sample.LamText(sample.Row(100, konst(1))) || e != api.OK {
		t.Errorf("To: error %d", e)
	}
}

func TestO1Bracket(t *testing.T) {
	for _, c := range []struct{ v, text, want string }{
		{"X", "X", "i"},
		{"X", "Y", "k Y"},
		{"X", "a", "k a"},
		{"X", "k", "k k"},
		{"X", "a b", "k (a b)"},
		{"X", "a X", "a"},
		{"X", "a b X", "a b"},
		{"X", "Y X", "Y"},
		{"X", "X X", "s i i"},
		{"X", "X a", "s i (k a)"},
		{"X", "a X X", "s a i"},
		{"X", "a (b X)", "s (k a) b"},
		{"X", "a (X b)", "s (k a) (s i (k b))"},
		{"X", "X (a b)", "s i (k (a b))"},
		{"X", "a X b", "s a (k b)"},
		{"X", "a X (b X)", "s a b"},
		{"X", "a (X X)", "s (k a) (s i i)"},
		{"X", "X (X X)", "s i (s i i)"},
		{"X", "X X X", "s (s i i) i"},
		{"X", "a (b c) X", "a (b c)"},
		{"X", "a b (c d) (X X)", "s (k (a b (c d))) (s i i)"},
		{"Y", "X Y", "X"},
		{"Y", "Y X", "s i (k X)"},
		{"Xy12345Z", "a Xy12345Z", "a"},
		{"X", "X1 X", "X1"},
		{"X1", "X X1 X1", "s X i"},
	} {
		x, e := Bracket(c.v, rows(c.text))
		if textOf(x) != textOf(rows(c.want)) || e != api.OK {
			t.Errorf("Bracket of %s, %s: %s, error %d, want %s", c.v, c.text, textOf(x), e, c.want)
		}
	}
}

func TestO1BracketOfWhatIsNoVariable(t *testing.T) {
	for _, v := range []string{"", "x", "a", "s", "9", "X_", "X ", "ÄX", "Xabcdefgh", "1X", "X(a)", " X", "X\x00"} {
		if x, e := Bracket(v, rows("a X")); !isNone(x) || e != api.ErrName {
			t.Errorf("Bracket of %q: %s, error %d", v, textOf(x), e)
		}
	}
}

// No term that may be given comes to more than MaxGrown knots.
func TestO1BracketOfTheGreatest(t *testing.T) {
	x := knot("X")
	for range 99 {
		x = applied(x, knot("a"))
	}
	y, e := Bracket("X", x)
	if sample.Count(y) != 99*3+99*3+1 || e != api.OK {
		t.Errorf("Bracket: %d knots, error %d", sample.Count(y), e)
	}
}

func TestO2From(t *testing.T) {
	for _, c := range []struct{ text, want string }{
		{"c0", "c0"},
		{"c39", "c39"},
		{"c1 c2 (c3 c4)", "c1 c2 (c3 c4)"},
		{`\x.x`, "i"},
		{`\x.c1`, "k c1"},
		{`\x.c1 x`, "c1"},
		{`\x.\y.x`, "k"},
		{`\x.\y.y`, "k i"},
		{`\x.\y.x y`, "i"},
		{`\y.\z.z y`, "s (k (s i)) k"},
		{`\x.x x`, "s i i"},
		{`(\x.x) c1`, "i c1"},
		{`(\x.x x) (\x.x x)`, "s i i (s i i)"},
		{`\x.\y.\z.x z (y z)`, "s"},
		{`\x.\y.\z.x (y z)`, "s (k s) k"},
		{`\x.\y.\z.x`, "s (k k) k"},
		{`\x.c1 (\y.x)`, "s (k c1) k"},
		{`\x.c1 (\y.y x)`, "s (k c1) (s (k (s i)) k)"},
		{`\x.(\y.y) x`, "i"},
		{`\x.(\y.x) x`, "s k i"},
		{`\x.\y.c1 (x y) y`, "s (s (k s) (s (k c1))) (k i)"},
	} {
		want := textOf(rows(c.want))
		x, e := From(parsedLam(t, c.text))
		if textOf(x) != want || e != api.OK {
			t.Errorf("From of %s: %s, error %d, want %s", c.text, textOf(x), e, want)
		}
	}
}

// turned is so many binders of what they bind, the last one applied to the one ahead
// of it, and so on.
func turned(many int) api.Lam {
	f := bound(0)
	for i := 1; i < many; i++ {
		f = sample.Applied(f, bound(i))
	}
	return sample.Binders(many, f)
}

// grown is a lambda term that comes to MaxGrown - 1 knots, and to two more for each
// binder more: terms of aps alone have an odd number of them.
func grown(more int) api.Lam { return sample.Binders(115+more, turned(13)) }

func TestO2FromFull(t *testing.T) {
	less := grown(-1)
	for what, c := range map[string]struct {
		t     api.Lam
		knots int
		e     api.Errno
	}{
		"MaxGrown - 1":                              {grown(0), api.MaxGrown - 1, api.OK},
		"MaxGrown + 1, by a binder":                 {grown(1), 0, api.ErrFull},
		"MaxGrown - 1, by an Apply":                 {sample.Applied(less, konst(0)), api.MaxGrown - 1, api.OK},
		"MaxGrown + 1, by an Apply":                 {sample.Applied(grown(0), konst(0)), 0, api.ErrFull},
		"MaxGrown + 1, by another Apply":            {sample.Applied(konst(0), grown(0)), 0, api.ErrFull},
		"MaxGrown - 1, then less":                   {binder(sample.Applied(less, bound(0))), api.MaxGrown - 3, api.OK},
		"MaxGrown + 1, then less":                   {binder(sample.Applied(grown(0), bound(0))), 0, api.ErrFull},
		"MaxGrown + 1, in the first Sub":            {sample.Applied(grown(1), konst(0)), 0, api.ErrFull},
		"MaxGrown + 1, in the second Sub":           {sample.Applied(konst(0), grown(1)), 0, api.ErrFull},
		"far more, by binders one within the other": {turned(60), 0, api.ErrFull},
	} {
		x, e := From(c.t)
		if e != c.e || e == api.OK && sample.Count(x) != c.knots || e != api.OK && !isNone(x) {
			t.Errorf("%s: %d knots, error %d, want %d, error %d", what, sample.Count(x), e, c.knots, c.e)
		}
	}
}

func TestO2FromOfWhatMayNotBe(t *testing.T) {
	for _, w := range sample.WrongLams() {
		if x, e := From(w.Lam); !isNone(x) || e != w.Errno {
			t.Errorf("From of %s: error %d, want %d", w.What, e, w.Errno)
		}
	}
	// That comes ahead of how great it would be.
	if x, e := From(sample.Applied(grown(1), bound(0))); !isNone(x) || e != api.ErrOpen {
		t.Errorf("From of what is too great and open: error %d", e)
	}
	if x, e := From(sample.Binders(api.MaxNodes-1, konst(0))); sample.Count(x) != 2*api.MaxNodes-1 || e != api.OK {
		t.Errorf("From of MaxNodes: error %d", e)
	}
}

func TestO2To(t *testing.T) {
	for text, want := range map[string]string{
		"i":             `\x.x`,
		"k":             `\x.\y.x`,
		"s":             `\x.\y.\z.x z (y z)`,
		"c0":            "c0",
		"c9":            "c9",
		"c10":           "c10",
		"c39":           "c39",
		"c1 c2 (c3 c4)": "c1 c2 (c3 c4)",
		"s k k c1":      `(\x.\y.\z.x z (y z)) (\x.\y.x) (\x.\y.x) c1`,
		"i (i c1)":      `(\x.x) ((\x.x) c1)`,
	} {
		x, e := To(rows(text))
		if sample.LamText(x) != sample.LamText(parsedLam(t, want)) || e != api.OK {
			t.Errorf("To of %s: %s, error %d, want %s", text, sample.LamText(x), e, want)
		}
	}
}

func TestO2ToRefuses(t *testing.T) {
	for text, want := range map[string]api.Errno{
		"X":          api.ErrOpen,
		"S":          api.ErrOpen,
		"C1":         api.ErrOpen,
		"i X":        api.ErrOpen,
		"a":          api.ErrName,
		"ap":         api.ErrName,
		"c":          api.ErrName,
		"c40":        api.ErrName,
		"c01":        api.ErrName,
		"c00":        api.ErrName,
		"c039":       api.ErrName,
		"c1x":        api.ErrName,
		"cx":         api.ErrName,
		"c9999999":   api.ErrName,
		"d1":         api.ErrName,
		"ss":         api.ErrName,
		"i1":         api.ErrName,
		"a X":        api.ErrName,
		"X a":        api.ErrOpen,
		"i (a X) X":  api.ErrName,
		"i (k X) c":  api.ErrOpen,
		"s (c1 X) a": api.ErrOpen,
		"i a (X X)":  api.ErrName,
	} {
		if x, e := To(rows(text)); !sample.IsNoLam(x) || e != want {
			t.Errorf("To of %s: %s, error %d, want %d", text, sample.LamText(x), e, want)
		}
	}
}

// No term that may be given comes to more than MaxGrown knots.
func TestO2ToOfTheGreatest(t *testing.T) {
	if x, e := To(many(100, knot("s"))); sample.LamCount(x) != 100*10+99 || e != api.OK {
		t.Errorf("To: %d knots, error %d", sample.LamCount(x), e)
	}
}

func TestO3Run(t *testing.T) {
	for _, c := range []struct {
		text, want string
		steps      int
	}{
		{"a", "a", 0},
		{"X", "X", 0},
		{"i", "i", 0},
		{"k", "k", 0},
		{"k a", "k a", 0},
		{"s", "s", 0},
		{"s a", "s a", 0},
		{"s a b", "s a b", 0},
		{"a i", "a i", 0},
		{"I a", "I a", 0},
		{"ap a", "ap a", 0},
		{"i a", "a", 1},
		{"i X", "X", 1},
		{"k a b", "a", 1},
		{"s a b c", "a c (b c)", 1},
		{"i a b", "a b", 1},
		{"i a b c d", "a b c d", 1},
		{"k a b c", "a c", 1},
		{"k a b c d e", "a c d e", 1},
		{"s a b c d", "a c (b c) d", 1},
		{"s a b c d e", "a c (b c) d e", 1},
		{"s k k c1", "c1", 2},
		{"i i i a", "a", 3},
		{"i (i a)", "a", 2},
		{"a (i b) (k c d)", "a b c", 2},
		{"a (b (i c))", "a (b c)", 1},
		{"k a (s i i (s i i))", "a", 1},
		{"k (i a) (i b)", "a", 2},
		{"s a (i b) (i c)", "a c (b c)", 4},
		{"s i i (i a)", "a a", 5},
		{"k i a b", "b", 2},
		{"s (k a) i b", "a b", 3},
		{"s a b (k c)", "a (k c) (b (k c))", 1},
		{"k (s a) b (i c)", "s a c", 2},
		{"s (i a) b", "s a b", 1},
		{"X (i a)", "X a", 1},
	} {
		x, n, e := Run(rows(c.text), 9)
		if textOf(x) != textOf(rows(c.want)) || n != c.steps || e != api.OK {
			t.Errorf("Run of %s: %s, %d, error %d, want %s, %d", c.text, textOf(x), n, e, c.want, c.steps)
		}
	}
}

func TestO3Fuel(t *testing.T) {
	x := rows("i (i (i a))")
	for most := range 6 {
		y, n, e := Run(x, most)
		if most < 3 && (!isNone(y) || n != 0 || e != api.ErrFuel) || most >= 3 && (textOf(y) != "a" || n != 3 || e != api.OK) {
			t.Errorf("at most %d: %s, %d, error %d", most, textOf(y), n, e)
		}
	}
	if y, n, e := Run(rows("a b"), 0); textOf(y) != "ap(a,b)" || n != 0 || e != api.OK {
		t.Errorf("nothing to do: %s, %d, error %d", textOf(y), n, e)
	}
	if y, n, e := Run(rows("s i i (s i i)"), api.MaxFuel); !isNone(y) || n != 0 || e != api.ErrFuel {
		t.Errorf("what has no end: %s, %d, error %d", textOf(y), n, e)
	}
}

// doubled is x, doubled so many times: by one step, and one more for the second half
// of what comes.
func doubled(times int, x api.Term) api.Term {
	for range times {
		x = applied(rows("s c0 i"), x)
	}
	return x
}

// idle is x under so many i: one step each.
func idle(many int, x api.Term) api.Term {
	for range many {
		x = applied(knot("i"), x)
	}
	return x
}

func TestO3MaxFuel(t *testing.T) {
	x := doubled(4, idle(23, knot("a")))
	if y, n, e := Run(idle(2, x), api.MaxFuel); isNone(y) || n != api.MaxFuel || e != api.OK {
		t.Errorf("MaxFuel steps: %d, error %d", n, e)
	}
	if y, n, e := Run(idle(2, x), api.MaxFuel-1); !isNone(y) || n != 0 || e != api.ErrFuel {
		t.Errorf("one too few: %d, error %d", n, e)
	}
	if y, n, e := Run(idle(3, x), api.MaxFuel); !isNone(y) || n != 0 || e != api.ErrFuel {
		t.Errorf("one too many to do: %d, error %d", n, e)
	}
}

func TestO3MostRefused(t *testing.T) {
	for _, most := range []int{-1, api.MaxFuel + 1, -1 << 63, 1<<63 - 1} {
		if x, n, e := Run(rows("i a"), most); !isNone(x) || n != 0 || e != api.ErrPlace {
			t.Errorf("at most %d: %d, error %d", most, n, e)
		}
	}
}

// At its greatest, ahead of its last step, the first of these has MaxGrown - 1 knots,
// the other one MaxGrown + 1: terms of aps alone have an odd number of them.
func TestO3Full(t *testing.T) {
	row := doubled(4, many(61, knot("a")))
	fits := applied(row, slices.Repeat([]api.Term{knot("c1")}, 8)...)
	full := applied(fits, knot("c1"))
	for what, c := range map[string]struct {
		t     api.Term
		most  int
		steps int
		e     api.Errno
	}{
		"MaxGrown - 1":                    {fits, api.MaxFuel, 30, api.OK},
		"MaxGrown + 1":                    {full, api.MaxFuel, 0, api.ErrFull},
		"MaxGrown + 1, by the last":       {full, 29, 0, api.ErrFull},
		"MaxGrown + 1, not done":          {full, 28, 0, api.ErrFuel},
		"MaxGrown - 1, one too few":       {fits, 29, 0, api.ErrFuel},
		"MaxGrown + 1, but left out":      {applied(rows("k c0"), full), 9, 1, api.OK},
		"MaxGrown + 1, by what is around": {applied(knot("c0"), fits), api.MaxFuel, 0, api.ErrFull},
		"far more":                        {doubled(12, many(20, knot("a"))), api.MaxFuel, 0, api.ErrFull},
	} {
		x, n, e := Run(c.t, c.most)
		if n != c.steps || e != c.e || isNone(x) != (e != api.OK) {
			t.Errorf("%s: %d steps, error %d, want %d, error %d", what, n, e, c.steps, c.e)
		}
	}
}

func TestZ1EndsSoon(t *testing.T) {
	Run(doubled(30, rows("s s s")), api.MaxFuel)
	Run(rows("s s s (s s) s s"), api.MaxFuel)
	Run(many(100, knot("s")), api.MaxFuel)
	From(sample.Binders(100, sample.Row(50, bound(99))))
	From(turned(66))
}

func TestZ2FreshMemory(t *testing.T) {
	x, lam := rows("a (b X) (i (k c d)) (s X (b c) (a (b c)))"), parsedLam(t, `\x.c1 (c2 c3) (\y.c4 c5)`)
	was, wasLam := textOf(x), sample.LamText(lam)
	unchanged := func(what string, y api.Term) {
		t.Helper()
		sample.Spoil(y)
		if textOf(x) != was || sample.LamText(lam) != wasLam {
			t.Fatalf("%s: memory is shared", what)
		}
	}
	for _, v := range []string{"X", "Y"} {
		y, _ := Bracket(v, x)
		unchanged("Bracket", y)
	}
	y, _, _ := Run(x, 0)
	unchanged("Run", y)
	y, _, _ = Run(x, 9)
	// What came to be there twice shares no memory.
	if got, want := textOf(y), textOf(rows("a (b X) c (X (a (b c)) (b c (a (b c))))")); got != want {
		t.Fatalf("Run: %s, want %s", got, want)
	}
	last := y.Args[1]
	sample.Spoil(last.Args[0].Args[1])
	if got, want := textOf(last.Args[1]), textOf(rows("b c (a (b c))")); got != want {
		t.Errorf("Run: what is there twice shares memory: %s", got)
	}
	unchanged("Run", y)
	z, _ := From(lam)
	unchanged("From", z)
	u, _ := To(rows("s s"))
	sample.SpoilLam(u.Subs[0])
	if v, _ := To(knot("s")); sample.LamText(u.Subs[1]) != sample.LamText(v) || v.Kind != api.Lambda {
		t.Errorf("To: memory is shared: %s", sample.LamText(u))
	}
}

func TestZ2NothingBeyond(t *testing.T) {
	terms := []api.Term{knot("i"), knot("X"), knot("")}
	x := api.Term{Name: "ap", Args: terms[:2]}
	if y, e := Bracket("X", x); textOf(y) != "i" || e != api.OK {
		t.Errorf("Bracket: %s, error %d", textOf(y), e)
	}
	if y, n, e := Run(x, 9); textOf(y) != "X" || n != 1 || e != api.OK {
		t.Errorf("Run: %s, %d, error %d", textOf(y), n, e)
	}
	if textOf(knot("f", terms...)) != "f(i,X,)" {
		t.Errorf("written into: %v", terms)
	}
}
