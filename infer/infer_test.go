package infer

import (
	"strconv"
	"strings"
	"testing"

	"metaprune/api"
	"metaprune/lambda"
	"metaprune/sample"
)

var (
	base    = sample.Base
	arrow2  = sample.Arrow
	typeRow = sample.TypeRow
	bound   = sample.Bound
	konst   = sample.Const
	binder  = sample.Binder
	applied = sample.Applied
	textOf  = sample.TypeText
)

func parsed(t *testing.T, text string) api.Lam {
	t.Helper()
	x, e := lambda.Parse(text, nil)
	if e != api.OK {
		t.Fatalf("Parse(%q): error %d", text, e)
	}
	return x
}

// typed reads a type as Text writes it.
func typed(t *testing.T, text string) api.Type {
	t.Helper()
	x, rest := readType(text)
	if rest != "" {
		t.Fatalf("%s: %s is left", text, rest)
	}
	return x
}

func readType(text string) (api.Type, string) {
	var from api.Type
	if text[0] == '(' {
		from, text = readType(text[1:])
		text = text[1:]
	} else {
		end := strings.IndexAny(text+">", ">)")
		from.Base, _ = strconv.Atoi(text[1:end])
		text = text[end:]
	}
	if text == "" || text[0] == ')' {
		return from, text
	}
	to, text := readType(text[1:])
	return arrow2(from, to), text
}

func TestP1Check(t *testing.T) {
	for what, ty := range map[string]api.Type{
		"a base":             base(0),
		"the last base":      base(999),
		"an empty list":      {Base: 3, Subs: []api.Type{}},
		"an arrow":           arrow2(base(5), base(5)),
		"arrows":             arrow2(arrow2(base(0), base(1)), arrow2(arrow2(base(2), base(999)), base(3))),
		"MaxNodes - 1 knots": typeRow(api.MaxNodes/2, base(1)),
		"what it is by zero": {},
	} {
		if e := Check(ty); e != api.OK {
			t.Errorf("Check of %s: error %d", what, e)
		}
	}
}

// of is a knot of so many bases, well formed or not.
func of(number, many int, b api.Type) api.Type {
	t := api.Type{Base: number}
	for range many {
		t.Subs = append(t.Subs, b)
	}
	return t
}

func wrongTypes() []sample.WrongType {
	bad := base(-1)
	form := of(0, 1, base(0))
	return append(sample.WrongTypes(), []sample.WrongType{
		{What: "a great number", Type: base(1000), Errno: api.ErrPlace},
		{What: "the greatest number", Type: base(1<<63 - 1), Errno: api.ErrPlace},
		{What: "the least number", Type: base(-1 << 63), Errno: api.ErrPlace},
		{What: "below 0, second", Type: arrow2(base(0), arrow2(base(1), bad)), Errno: api.ErrPlace},
		{What: "below 0, first", Type: arrow2(arrow2(bad, base(1)), base(0)), Errno: api.ErrPlace},
		{What: "an arrow with a number below 0", Type: of(-1, 2, base(0)), Errno: api.ErrForm},
		{What: "an arrow with a great number", Type: of(1000, 2, base(0)), Errno: api.ErrForm},
		{What: "a wrong number and one Sub", Type: of(1000, 1, base(0)), Errno: api.ErrForm},
		{What: "MaxNodes knots, but three Subs", Type: arrow2(of(0, 3, base(0)), typeRow(98, base(0))), Errno: api.ErrForm},
		{What: "MaxNodes knots in one list", Type: of(0, api.MaxNodes-1, base(0)), Errno: api.ErrForm},
		{What: "MaxNodes + 1 knots in one list", Type: of(0, api.MaxNodes, base(0)), Errno: api.ErrLimit},
		{What: "MaxNodes + 1 knots, wrong ones, too", Type: typeRow(101, bad), Errno: api.ErrLimit},
		{What: "MaxNodes + 1 knots, all to the left", Type: leftRow(101), Errno: api.ErrLimit},
		{What: "a wrong number ahead of a wrong form", Type: arrow2(bad, form), Errno: api.ErrPlace},
		{What: "a wrong form ahead of a wrong number", Type: arrow2(form, bad), Errno: api.ErrForm},
		{What: "a wrong number below ahead of a wrong form", Type: arrow2(arrow2(base(0), bad), form), Errno: api.ErrPlace},
		{What: "a wrong form above a wrong number", Type: of(0, 3, bad), Errno: api.ErrForm},
	}...)
}

// leftRow is the arrow from one from one .. so many bases in all.
func leftRow(many int) api.Type {
	t := base(0)
	for range many - 1 {
		t = arrow2(t, base(0))
	}
	return t
}

func TestP1TypesThatMayNotBe(t *testing.T) {
	for _, w := range wrongTypes() {
		if e := Check(w.Type); e != w.Errno {
			t.Errorf("Check of %s: error %d, want %d", w.What, e, w.Errno)
		}
		if s, e := Text(w.Type); s != "" || e != w.Errno {
			t.Errorf("Text of %s: %q, error %d, want %d", w.What, s, e, w.Errno)
		}
		// It is said ahead of all that is wrong with the term.
		for _, x := range []api.Lam{id(), konst(0), {}, sample.EndlessLam(), binder(applied(bound(0), bound(0)))} {
			if ok, e := Has(x, w.Type); ok || e != w.Errno {
				t.Errorf("Has of %s: %v, error %d, want %d", w.What, ok, e, w.Errno)
			}
		}
	}
}

func TestP1Text(t *testing.T) {
	a, b, c := base(0), base(1), base(12)
	for want, ty := range map[string]api.Type{
		"a0":                       a,
		"a12":                      c,
		"a999":                     base(999),
		"a0>a0":                    arrow2(a, a),
		"a0>a1>a12":                arrow2(a, arrow2(b, c)),
		"(a0>a1)>a12":              arrow2(arrow2(a, b), c),
		"(a0>a1)>(a2>a0)>a2>a1":    arrow2(arrow2(a, b), arrow2(arrow2(base(2), a), arrow2(base(2), b))),
		"((a0>a1)>a12)>a0":         arrow2(arrow2(arrow2(a, b), c), a),
		"(a0>a1>a12)>a0":           arrow2(arrow2(a, arrow2(b, c)), a),
		"(a0>(a1>a12)>a0)>a1":      arrow2(arrow2(a, arrow2(arrow2(b, c), a)), b),
		"a0>(a1>a12)>(a0>a1)>a999": arrow2(a, arrow2(arrow2(b, c), arrow2(arrow2(a, b), base(999)))),
	} {
		if s, e := Text(ty); s != want || e != api.OK {
			t.Errorf("Text: %s, error %d, want %s", s, e, want)
		}
		if back := typed(t, want); textOf(back) != textOf(ty) {
			t.Errorf("%s is read as %s", want, textOf(back))
		}
	}
	if s, e := Text(leftRow(100)); len(s) != 98*2+99+100*2 || e != api.OK {
		t.Errorf("Text of MaxNodes - 1 knots: %s, error %d", s, e)
	}
}

func TestP2Principal(t *testing.T) {
	for text, want := range map[string]string{
		`\x.x`:                          "a0>a0",
		`\x.\y.x`:                       "a0>a1>a0",
		`\x.\y.y`:                       "a0>a1>a1",
		`\x.\y.x y`:                     "(a0>a1)>a0>a1",
		`\x.\y.y x`:                     "a0>(a0>a1)>a1",
		`\f.\g.\x.f (g x)`:              "(a0>a1)>(a2>a0)>a2>a1",
		`\f.\x.f (f x)`:                 "(a0>a0)>a0>a0",
		`\x.\y.\z.x z (y z)`:            "(a0>a1>a2)>(a0>a1)>a0>a2",
		`\x.\y.\z.x z y`:                "(a0>a1>a2)>a1>a0>a2",
		`\x.\y.x y y`:                   "(a0>a0>a1)>a0>a1",
		`\x.\z.z x x`:                   "a0>(a0>a0>a1)>a1",
		`(\x.x) (\x.x)`:                 "a0>a0",
		`(\x.\y.x) (\x.x)`:              "a0>a1>a1",
		`(\x.\y.y) (\x.\y.x)`:           "a0>a0",
		`\x.(\y.y) x`:                   "a0>a0",
		`\x.(\y.x) (\y.y x)`:            "a0>a0",
		`\x.x (\y.y)`:                   "((a0>a0)>a1)>a1",
		`\x.x (\y.\z.y) (\y.\z.z)`:      "((a0>a1>a0)>(a2>a3>a3)>a4)>a4",
		`\x.x (x (\y.y))`:               "((a0>a0)>a0>a0)>a0>a0",
		`\x.\y.(\z.x) (x y)`:            "(a0>a1)>a0>a0>a1",
		`\x.\y.\z.\f.f (f x (y z)) z`:   "a0>(a1>a1)>a1>(a0>a1>a0)>a0",
		`\x.\y.(\f.f) (\z.z (x y)) x y`: "",
		`(\x.\y.\z.x z (y z)) (\x.\y.x) (\x.\y.x)`: "a0>a0",
	} {
		x, e := Principal(parsed(t, text))
		if want == "" {
			if !sample.IsNoType(x) || e != api.ErrType {
				t.Errorf("Principal of %s: %s, error %d", text, textOf(x), e)
			}
			continue
		}
		if textOf(x) != textOf(typed(t, want)) || e != api.OK {
			t.Errorf("Principal of %s: %s, error %d, want %s", text, textOf(x), e, want)
		}
		if s, e := Text(x); s != want || e != api.OK {
			t.Errorf("Text of it: %s, error %d, want %s", s, e, want)
		}
	}
}

func TestP2NoType(t *testing.T) {
	for _, text := range []string{
		`\x.x x`,
		`(\x.x x) (\x.x x)`,
		`\x.\y.x (y x) (x y)`,
		`\x.x (\y.x)`,
		`\x.x (\y.y x)`,
		`\f.f (\x.f) (f f)`,
		`\f.(\x.f (x x)) (\x.f (x x))`,
		`(\x.\y.x) (\x.x) (\x.x x)`,
		`(\i.i i) (\x.x)`,
		`\x.\y.\z.x y (y x)`,
		`\x.(\y.\z.z) (x x)`,
		`(\x.x x) (\x.x)`,
	} {
		x := parsed(t, text)
		if ty, e := Principal(x); !sample.IsNoType(ty) || e != api.ErrType {
			t.Errorf("Principal of %s: %s, error %d", text, textOf(ty), e)
		}
		for _, ty := range []api.Type{base(0), arrow2(base(0), base(0)), typed(t, "(a0>a0)>a0>a0")} {
			if ok, e := Has(x, ty); ok || e != api.OK {
				t.Errorf("Has of %s: %v, error %d", text, ok, e)
			}
		}
	}
}

func TestP2TermsThatMayNotBe(t *testing.T) {
	self := binder(applied(bound(0), bound(0)))
	wrongs := append(sample.WrongLams(), []sample.WrongLam{
		{What: "a constant", Lam: konst(0), Errno: api.ErrOpen},
		{What: "the last constant", Lam: konst(api.MaxList - 1), Errno: api.ErrOpen},
		{What: "a constant within", Lam: binder(applied(bound(0), binder(konst(3)))), Errno: api.ErrOpen},
		{What: "a constant that is applied", Lam: binder(applied(konst(3), bound(0))), Errno: api.ErrOpen},
		{What: "a constant behind what has no type", Lam: applied(self, konst(0)), Errno: api.ErrOpen},
		{What: "a constant behind what is too great", Lam: applied(doubled(12, id()), konst(0)), Errno: api.ErrOpen},
		{What: "a constant ahead of a wrong form", Lam: applied(konst(0), api.Lam{}), Errno: api.ErrForm},
		{What: "what has no type and is too much", Lam: sample.Binders(api.MaxNodes-3, self), Errno: api.ErrLimit},
		{What: "what has no type ahead of a wrong form", Lam: applied(self, api.Lam{Kind: 9}), Errno: api.ErrForm},
	}...)
	for _, w := range wrongs {
		if ty, e := Principal(w.Lam); !sample.IsNoType(ty) || e != w.Errno {
			t.Errorf("Principal of %s: %s, error %d, want %d", w.What, textOf(ty), e, w.Errno)
		}
		if ok, e := Has(w.Lam, base(0)); ok || e != w.Errno {
			t.Errorf("Has of %s: %v, error %d, want %d", w.What, ok, e, w.Errno)
		}
	}
}

func TestP2TheGreatestTerm(t *testing.T) {
	x := sample.Binders(api.MaxNodes-1, bound(0))
	ty, e := Principal(x)
	if sample.TypeCount(ty) != 2*api.MaxNodes-1 || e != api.OK {
		t.Errorf("Principal of MaxNodes knots: %d knots, error %d", sample.TypeCount(ty), e)
	}
	if ok, e := Has(x, base(0)); ok || e != api.OK {
		t.Errorf("Has: %v, error %d", ok, e)
	}
	// Its type is no type that may be given: it has more than MaxNodes knots.
	if s, e := Text(ty); s != "" || e != api.ErrLimit {
		t.Errorf("Text: %q, error %d", s, e)
	}
	if ok, e := Has(x, ty); ok || e != api.ErrLimit {
		t.Errorf("Has of its type: %v, error %d", ok, e)
	}
}

// doubled is something whose type has twice as many knots as what it is made of, and 5
// more; so many times: of 3 knots 11, 27, 59, 123, 251, 507, 1019, 2043.
func doubled(times int, x api.Lam) api.Lam {
	for range times {
		x = applied(binder(binder(applied(bound(0), bound(1), bound(1)))), x)
	}
	return x
}

// tuple applies a thing to closed terms: its type has a knot more for each, and 3 more.
func tuple(l ...api.Lam) api.Lam { return binder(applied(bound(0), l...)) }

// great has a type of MaxGrown - 1 knots, and 2 more for each number.
func great(more int) api.Lam {
	return tuple(doubled(7, id()), doubled(4, sample.Binders(26, bound(0))), sample.Binders(25+more, bound(0)))
}

func id() api.Lam { return binder(bound(0)) }

func TestP2Full(t *testing.T) {
	zero := binder(binder(bound(0)))
	self := binder(applied(bound(0), bound(0)))
	for _, c := range []struct {
		what  string
		x     api.Lam
		knots int
		e     api.Errno
	}{
		{"by doubling", doubled(7, id()), 1019, api.OK},
		{"by doubling, too great", doubled(8, id()), 0, api.ErrFull},
		{"by far too great", doubled(18, id()), 0, api.ErrFull},
		{"MaxGrown - 3", great(-1), api.MaxGrown - 3, api.OK},
		{"MaxGrown - 1", great(0), api.MaxGrown - 1, api.OK},
		// What it binds stands for MaxGrown - 1, but the type has more.
		{"MaxGrown + 1", great(1), 0, api.ErrFull},
		{"what it binds is too great, too", great(2), 0, api.ErrFull},
		{"MaxGrown + 1 by a binder", binder(great(0)), 0, api.ErrFull},
		{"MaxGrown - 1 by a binder", binder(great(-1)), api.MaxGrown - 1, api.OK},
		// The arrow from what it is applied to has 2 knots more; of the type nothing is left.
		{"MaxGrown - 1 in an equation, then less", applied(zero, great(-1)), 3, api.OK},
		{"MaxGrown + 1 in an equation, then less", applied(zero, great(0)), 0, api.ErrFull},
		{"MaxGrown - 1 on the left of an equation", applied(binder(applied(bound(0), binder(bound(0)))), binder(great(-3))), api.MaxGrown - 7, api.OK},
		{"too great, then of no type", applied(applied(zero, great(0)), self), 0, api.ErrFull},
		{"of no type, then too great", applied(self, great(0)), 0, api.ErrType},
		{"of no type in the second Sub, then too great", applied(applied(zero, self), great(1)), 0, api.ErrType},
		{"of no type ahead of being too great as a whole", tuple(great(-1), self), 0, api.ErrType},
		{"too great by one, ahead of having no type", tuple(great(0), self), 0, api.ErrFull},
		{"of no type ahead of being too great, in one row", tuple(self, doubled(8, id())), 0, api.ErrType},
		{"too great ahead of having no type, in one row", tuple(doubled(8, id()), self), 0, api.ErrFull},
	} {
		ty, e := Principal(c.x)
		if e != c.e || e == api.OK && sample.TypeCount(ty) != c.knots || e != api.OK && !sample.IsNoType(ty) {
			t.Errorf("%s: %d knots, error %d, want %d, error %d", c.what, sample.TypeCount(ty), e, c.knots, c.e)
		}
		want := c.e
		if want == api.ErrType {
			want = api.OK
		}
		if ok, e := Has(c.x, base(0)); ok || e != want {
			t.Errorf("Has of %s: %v, error %d, want %d", c.what, ok, e, want)
		}
	}
}

func TestP2Has(t *testing.T) {
	for _, c := range []struct {
		text, ty string
		ok       bool
	}{
		{`\x.x`, "a0>a0", true},
		{`\x.x`, "a7>a7", true},
		{`\x.x`, "a0>a1", false},
		{`\x.x`, "a0", false},
		{`\x.x`, "(a0>a1)>a0>a1", true},
		{`\x.x`, "(a0>a1)>a1>a0", false},
		{`\x.x`, "(a0>a0)>a0", false},
		{`\x.\y.x`, "a0>a1>a0", true},
		{`\x.\y.x`, "a1>a0>a1", true},
		{`\x.\y.x`, "a0>a0>a0", true},
		{`\x.\y.x`, "a0>a1>a1", false},
		{`\x.\y.x`, "a0>a0", false},
		{`\x.\y.x`, "(a0>a1)>a2>a0>a1", true},
		{`\f.\x.f (f x)`, "(a0>a0)>a0>a0", true},
		{`\f.\x.f (f x)`, "((a0>a1)>a0>a1)>(a0>a1)>a0>a1", true},
		{`\f.\x.f (f x)`, "(a0>a1)>a0>a1", false},
		{`\f.\g.\x.f (g x)`, "(a0>a0)>(a0>a0)>a0>a0", true},
		{`\f.\g.\x.f (g x)`, "(a1>a0)>(a2>a1)>a2>a0", true},
		{`\f.\g.\x.f (g x)`, "(a1>a0)>(a2>a1)>a1>a0", false},
		{`(\x.\y.x) (\x.x)`, "a5>a3>a3", true},
		{`(\x.\y.x) (\x.x)`, "a5>a3>a5", false},
	} {
		if ok, e := Has(parsed(t, c.text), typed(t, c.ty)); ok != c.ok || e != api.OK {
			t.Errorf("Has of %s, %s: %v, error %d", c.text, c.ty, ok, e)
		}
	}
}

func TestP2HasTheGreatestType(t *testing.T) {
	x := typeRow(49, base(999))
	if ok, e := Has(binder(bound(0)), arrow2(x, x)); !ok || e != api.OK {
		t.Errorf("Has: %v, error %d", ok, e)
	}
	if ok, e := Has(binder(bound(0)), arrow2(x, typeRow(50, base(999)))); ok || e != api.OK {
		t.Errorf("Has of MaxNodes - 1 knots: %v, error %d", ok, e)
	}
	if ok, e := Has(sample.Binders(99, bound(0)), typeRow(100, base(4))); !ok || e != api.OK {
		t.Errorf("Has of MaxNodes - 1 knots in a row: %v, error %d", ok, e)
	}
}

func TestZ1EndsSoon(t *testing.T) {
	Principal(sample.Binders(1, sample.Row(100, bound(0))))
	Principal(doubled(24, id()))
	Principal(sample.Row(100, binder(bound(0))))
	// Much stands for many variables, and all of it changes again and again.
	var l []api.Lam
	for i := range 60 {
		l = append(l, bound(i))
	}
	Principal(sample.Binders(60, applied(l[0], l[1:]...)))
	x := binder(applied(bound(0), great(-5)))
	for range 20 {
		x = binder(binder(applied(bound(1), bound(0), x)))
	}
	Principal(x)
}

func TestZ2FreshMemory(t *testing.T) {
	x := parsed(t, `\f.\g.\x.f (g x) (\y.y)`)
	was := sample.LamText(x)
	a, _ := Principal(x)
	b, e := Principal(x)
	want := textOf(b)
	sample.SpoilType(a)
	if textOf(b) != want || e != api.OK {
		t.Errorf("Principal: two answers share memory: %s", textOf(b))
	}
	// What is there twice shares no memory.
	c, _ := Principal(parsed(t, `\x.x (x (\y.y))`))
	sample.SpoilType(c.Subs[0].Subs[0])
	if got := textOf(c.Subs[1]); got != "0(0)(0)" {
		t.Errorf("Principal: what is there twice shares memory: %s", got)
	}
	ty := typed(t, "(a0>(a1>a1)>a2)>(a3>a0)>a3>a2")
	wasType := textOf(ty)
	if ok, e := Has(x, ty); !ok || e != api.OK {
		t.Errorf("Has: %v, error %d", ok, e)
	}
	if sample.LamText(x) != was || textOf(ty) != wasType {
		t.Error("written into what was handed in")
	}
}

func TestZ2NothingBeyond(t *testing.T) {
	subs := []api.Type{base(0), base(0), base(-1)}
	ty := api.Type{Subs: subs[:2]}
	if s, e := Text(ty); s != "a0>a0" || e != api.OK {
		t.Errorf("Text: %s, error %d", s, e)
	}
	lams := []api.Lam{bound(0), {}}
	x := api.Lam{Kind: api.Lambda, Subs: lams[:1]}
	if ok, e := Has(x, ty); !ok || e != api.OK {
		t.Errorf("Has: %v, error %d", ok, e)
	}
	if e := Check(api.Type{Base: 4, Subs: subs[:0]}); e != api.OK {
		t.Errorf("Check: error %d", e)
	}
	if textOf(api.Type{Subs: subs}) != "0(0)(0)(-1)" || sample.LamText(lams[1]) != "0:0" {
		t.Error("written into what was handed in")
	}
}
