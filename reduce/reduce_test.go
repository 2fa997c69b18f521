package reduce

import (
	"strings"
	"testing"

	"metaprune/api"
	"metaprune/lambda"
	"metaprune/sample"
)

var (
	bound   = sample.Bound
	konst   = sample.Const
	binder  = sample.Binder
	nested  = sample.Binders
	applied = sample.Applied
	row     = sample.Row
	textOf  = sample.LamText
	isNone  = sample.IsNoLam
)

// free are the names of what is bound from outside, in the tables below.
func free() []string { return []string{"v", "w"} }

func parsed(t *testing.T, text string) api.Lam {
	t.Helper()
	x, e := lambda.Parse(text, free())
	if e != api.OK {
		t.Fatalf("Parse(%q): error %d", text, e)
	}
	return x
}

const (
	id    = `(\y.y)`
	omega = `((\y.y y) (\y.y y))`
	two   = `(\f.\y.f (f y))`
)

// runs are Normal and Strict, by their names.
func runs() map[string]func(api.Lam, int, int) (api.Lam, int, api.Errno) {
	return map[string]func(api.Lam, int, int) (api.Lam, int, api.Errno){"Normal": Normal, "Strict": Strict}
}

func TestN1NormalAndStrict(t *testing.T) {
	for _, c := range []struct {
		text, want     string
		normal, strict int
	}{
		{"c1", "c1", 0, 0},
		{"v", "v", 0, 0},
		{`\y.y w`, `\y.y w`, 0, 0},
		{"c1 " + id + " " + id, "c1 " + id + " " + id, 0, 0},
		{id + " c1", "c1", 1, 1},
		{id + " w", "w", 1, 1},
		{`\z.` + id + " z", `\z.z`, 1, 1},
		{"c1 (" + id + " c2) (" + id + " v)", "c1 c2 v", 2, 2},
		{id + " (" + id + " c1)", "c1", 2, 2},
		{id + " " + id + " c1", "c1", 2, 2},
		{`(\y.y y) (` + id + " c1)", "c1 c1", 3, 2},
		{`(\y.y y y) (` + id + " v)", "v v v", 4, 2},
		{`(\y.c1) (` + id + " c2)", "c1", 1, 2},
		{`(\y.` + id + " y) c1", "c1", 2, 2},
		{`(\y.\z.y) v w`, "v", 2, 2},
		{`\z.(\y.\z.y) z`, `\z.\u.z`, 1, 1},
		{`\z.(\y.\u.y z) (\u.z u)`, `\z.\u.z z`, 2, 2},
		{`\z.(\y.\u.u y z) (\u.z u)`, `\z.\u.u (\a.z a) z`, 1, 1},
		{`(\y.\z.z y w) (v w)`, `\z.z (v w) w`, 1, 1},
		{two + " " + two, `\f.\y.f (f (f (f y)))`, 6, 5},
		{`(\y.y c1) (\z.z (\u.u z))`, `c1 (\u.u c1)`, 2, 2},
		{"c1 (" + id + ` (\y.` + id + " y)) (" + id + " w)", `c1 (\y.y) w`, 3, 3},
	} {
		for name, run := range runs() {
			steps := c.normal
			if name == "Strict" {
				steps = c.strict
			}
			x, n, e := run(parsed(t, c.text), 2, 9)
			if textOf(x) != textOf(parsed(t, c.want)) || n != steps || e != api.OK {
				t.Errorf("%s of %s: %s, %d, error %d, want %s, %d", name, c.text, textOf(x), n, e, c.want, steps)
			}
		}
	}
}

// Whether a term comes to an end may hang on which step goes first.
func TestN1WhichStepGoesFirst(t *testing.T) {
	x := parsed(t, `(\y.c1) `+omega)
	if y, n, e := Normal(x, 2, 1); textOf(y) != textOf(konst(1)) || n != 1 || e != api.OK {
		t.Errorf("Normal: %s, %d, error %d", textOf(y), n, e)
	}
	if y, n, e := Strict(x, 2, api.MaxFuel); !isNone(y) || n != 0 || e != api.ErrFuel {
		t.Errorf("Strict: %s, %d, error %d", textOf(y), n, e)
	}
	for name, run := range runs() {
		if y, n, e := run(parsed(t, omega), 2, api.MaxFuel); !isNone(y) || n != 0 || e != api.ErrFuel {
			t.Errorf("%s of what has no end: %s, %d, error %d", name, textOf(y), n, e)
		}
	}
}

func TestN1Fuel(t *testing.T) {
	for name, run := range runs() {
		x := parsed(t, id+" ("+id+" ("+id+" c1))")
		for most := range 6 {
			y, n, e := run(x, 2, most)
			if most < 3 && (!isNone(y) || n != 0 || e != api.ErrFuel) || most >= 3 && (textOf(y) != textOf(konst(1)) || n != 3 || e != api.OK) {
				t.Errorf("%s, at most %d: %s, %d, error %d", name, most, textOf(y), n, e)
			}
		}
		if y, n, e := run(bound(1), 2, 0); textOf(y) != textOf(bound(1)) || n != 0 || e != api.OK {
			t.Errorf("%s, nothing to do: %s, %d, error %d", name, textOf(y), n, e)
		}
	}
}

// repeated is a term to which Normal does 1 + a * b steps.
func repeated(a, b int) api.Lam {
	x := konst(0)
	for range b {
		x = applied(binder(bound(0)), x)
	}
	return applied(binder(row(a, bound(0))), x)
}

// repeatedStrictly is a term to which Strict does 1 + a * (b + 1) steps.
func repeatedStrictly(a, b int) api.Lam {
	x := konst(0)
	for range b {
		x = applied(bound(0), x)
	}
	f := applied(bound(0), binder(bound(0)))
	return applied(binder(row(a, f)), binder(x))
}

func TestN1MaxFuel(t *testing.T) {
	for what, c := range map[string]struct {
		run  func(api.Lam, int, int) (api.Lam, int, api.Errno)
		most api.Lam
		more api.Lam
	}{
		"Normal": {Normal, repeated(19, 21), repeated(20, 20)},
		"Strict": {Strict, repeatedStrictly(19, 20), repeatedStrictly(20, 19)},
	} {
		if x, n, e := c.run(c.most, 0, api.MaxFuel); isNone(x) || n != api.MaxFuel || e != api.OK {
			t.Errorf("%s, MaxFuel steps: %d, error %d", what, n, e)
		}
		if x, n, e := c.run(c.most, 0, api.MaxFuel-1); !isNone(x) || n != 0 || e != api.ErrFuel {
			t.Errorf("%s, one too few: %d, error %d", what, n, e)
		}
		if x, n, e := c.run(c.more, 0, api.MaxFuel); !isNone(x) || n != 0 || e != api.ErrFuel {
			t.Errorf("%s, one too many to do: %d, error %d", what, n, e)
		}
	}
}

func TestN1MostRefused(t *testing.T) {
	for name, run := range runs() {
		for _, most := range []int{-1, api.MaxFuel + 1, -1 << 63, 1<<63 - 1} {
			if x, n, e := run(konst(1), 0, most); !isNone(x) || n != 0 || e != api.ErrLimit {
				t.Errorf("%s, at most %d: %d, error %d", name, most, n, e)
			}
		}
		if x, n, e := run(bound(0), 0, -1); !isNone(x) || n != 0 || e != api.ErrOpen {
			t.Errorf("%s of what may not be, at most -1: %d, error %d", name, n, e)
		}
	}
}

// part is a term of 28 knots: 69 of it in a row have MaxGrown.
func part() api.Lam { return applied(konst(0), nested(25, konst(0))) }

// grows is a term that by one step comes to have MaxGrown knots and so many more.
func grows(more int) api.Lam {
	return applied(binder(nested(more, row(69, bound(more)))), part())
}

func TestN1Full(t *testing.T) {
	for what, c := range map[string]struct {
		t              api.Lam
		most           int
		normal, strict api.Errno
	}{
		"MaxGrown":                           {grows(0), 9, api.OK, api.OK},
		"MaxGrown + 1":                       {grows(1), 9, api.ErrFull, api.ErrFull},
		"MaxGrown, and a binder around it":   {binder(grows(0)), 9, api.ErrFull, api.ErrFull},
		"MaxGrown, and applied":              {applied(konst(0), grows(0)), 9, api.ErrFull, api.ErrFull},
		"MaxGrown + 1, but no step may be":   {grows(1), 0, api.ErrFuel, api.ErrFuel},
		"far more":                           {applied(binder(row(70, bound(0))), binder(row(27, bound(0)))), 9, api.ErrFull, api.ErrFull},
		"MaxGrown, then less":                {applied(binder(konst(0)), grows(0)), 9, api.OK, api.ErrFull},
		"MaxGrown, by the second step":       {applied(binder(bound(0)), grows(0)), 9, api.OK, api.ErrFull},
		"MaxGrown + 1, by the second step":   {applied(binder(bound(0)), grows(1)), 9, api.ErrFull, api.ErrFull},
		"MaxGrown + 1, by a step at its end": {applied(konst(0), applied(binder(row(69, bound(0))), part())), 9, api.ErrFull, api.ErrFull},
		"more, that would become less":       {applied(binder(applied(binder(konst(0)), binder(row(69, bound(1))))), part()), 9, api.ErrFull, api.OK},
		"each half of it and more":           {applied(binder(applied(konst(0), bound(0), bound(0))), applied(binder(row(36, bound(0))), part())), 9, api.ErrFull, api.ErrFull},
	} {
		for name, run := range runs() {
			want := c.normal
			if name == "Strict" {
				want = c.strict
			}
			x, n, e := run(c.t, 0, c.most)
			if e != want || e != api.OK && (!isNone(x) || n != 0) {
				t.Errorf("%s, %s: %d steps, error %d, want %d", name, what, n, e, want)
			}
		}
	}
	if x, n, _ := Normal(grows(0), 0, 1); sample.LamCount(x) != api.MaxGrown || n != 1 {
		t.Errorf("MaxGrown: %d knots, %d steps", sample.LamCount(x), n)
	}
}

func TestN1Steps(t *testing.T) {
	for _, c := range []struct{ text, want string }{
		{"c1", ""},
		{"v w", ""},
		{`\y.y`, ""},
		{id + " w", "w"},
		{`\z.` + id + " z", `\z.z`},
		{id + " (" + id + " c1)", id + " c1; " + id + " c1"},
		{`(\y.y y) (` + id + " c1)", id + " c1 (" + id + ` c1); (\y.y y) c1`},
		{id + " c1 (" + id + " c2)", "c1 (" + id + " c2); " + id + " c1 c2"},
		{`(\y.` + id + " y w) (" + id + " v)", id + " (" + id + ` v) w; (\y.y w) (` + id + ` v); (\y.` + id + " y w) v"},
		{omega, omega},
		{`\a.(\y.\z.y a v) (\z.a z)`, `\a.\z.(\u.a u) a v`},
	} {
		l, e := Steps(parsed(t, c.text), 2)
		var want []string
		for _, s := range strings.Split(c.want, "; ") {
			if s != "" {
				want = append(want, textOf(parsed(t, s)))
			}
		}
		var got []string
		for _, x := range l {
			got = append(got, textOf(x))
		}
		if strings.Join(got, "; ") != strings.Join(want, "; ") || e != api.OK {
			t.Errorf("Steps of %s: %v, error %d, want %v", c.text, got, e, want)
		}
	}
}

func TestN1StepsFull(t *testing.T) {
	small := applied(binder(bound(0)), konst(1))
	for what, c := range map[string]struct {
		t    api.Lam
		many int
		e    api.Errno
	}{
		"MaxGrown":                  {grows(0), 1, api.OK},
		"MaxGrown + 1":              {grows(1), 0, api.ErrFull},
		"MaxGrown + 1, by a binder": {binder(grows(0)), 0, api.ErrFull},
		"a small one first":         {applied(konst(0), small, grows(0)), 0, api.ErrFull},
		"a small one last":          {applied(konst(0), grows(0), small), 0, api.ErrFull},
		"far more":                  {applied(binder(row(60, bound(0))), row(38, konst(0))), 0, api.ErrFull},
	} {
		l, e := Steps(c.t, 0)
		if len(l) != c.many || e != c.e {
			t.Errorf("%s: %d, error %d, want %d", what, len(l), e, c.e)
		}
	}
}

func TestN2Develop(t *testing.T) {
	for _, c := range []struct{ text, want string }{
		{"c1", "c1"},
		{"w", "w"},
		{`\y.y w`, `\y.y w`},
		{"v w c1", "v w c1"},
		{id + " c1", "c1"},
		{`(\y.y y) (` + id + " c1)", "c1 c1"},
		{omega, omega},
		{id + " " + id + " c1", id + " c1"},
		{id + " (" + id + " c1)", "c1"},
		{`(\y.y c1) ` + id, id + " c1"},
		{`(\y.(\z.z y) w) v`, "w v"},
		{`(\y.\z.y z) c1 c2`, `(\z.c1 z) c2`},
		{`\z.(\y.\u.y u) (` + id + " z)", `\z.\u.z u`},
		{`(\y.c1) ` + omega, "c1"},
		{"c1 (" + id + " c2) (" + id + " v)", "c1 c2 v"},
		{two + " " + two, `\y.` + two + " (" + two + " y)"},
		{`\a.(\y.\z.y a v) (\z.a z)`, `\a.\z.(\u.a u) a v`},
	} {
		x, e := Develop(parsed(t, c.text), 2)
		if textOf(x) != textOf(parsed(t, c.want)) || e != api.OK {
			t.Errorf("Develop of %s: %s, error %d, want %s", c.text, textOf(x), e, c.want)
		}
	}
}

func TestN2DevelopFull(t *testing.T) {
	// It comes to MaxGrown - 1 knots: 50 of 39, and 49 Applies.
	less := applied(binder(row(50, bound(0))), applied(konst(0), nested(36, konst(0))))
	for what, c := range map[string]struct {
		t api.Lam
		e api.Errno
	}{
		"MaxGrown":                           {grows(0), api.OK},
		"MaxGrown + 1":                       {grows(1), api.ErrFull},
		"MaxGrown, and a binder around it":   {binder(grows(0)), api.ErrFull},
		"MaxGrown, and applied":              {applied(grows(0), konst(0)), api.ErrFull},
		"MaxGrown, then left out":            {applied(binder(konst(0)), grows(0)), api.OK},
		"MaxGrown + 1, then left out":        {applied(binder(konst(0)), grows(1)), api.ErrFull},
		"MaxGrown + 1 in what is left out":   {applied(binder(konst(0)), applied(konst(0), grows(0))), api.ErrFull},
		"MaxGrown + 1 in a binder's Sub":     {applied(binder(applied(binder(konst(0)), grows(1))), konst(0)), api.ErrFull},
		"in a binder's Sub, then left out":   {applied(binder(applied(binder(konst(0)), grows(0))), konst(0)), api.OK},
		"MaxGrown, of an applied binder":     {applied(binder(less), konst(0)), api.OK},
		"MaxGrown + 1, of an applied binder": {applied(binder(grows(0)), konst(0)), api.ErrFull},
		"likewise, within what is left out":  {applied(binder(konst(0)), applied(binder(grows(0)), konst(0))), api.ErrFull},
		"likewise, of one that is no binder": {applied(konst(0), less), api.ErrFull},
		"far more than MaxGrown":             {applied(binder(row(60, bound(0))), row(38, konst(0))), api.ErrFull},
		"far more, in another Apply's Sub":   {applied(konst(0), applied(binder(row(60, bound(0))), row(37, konst(0)))), api.ErrFull},
		"far more, by two, one in the other": {applied(binder(row(12, bound(0))), applied(binder(row(12, bound(0))), row(12, konst(0)))), api.ErrFull},
	} {
		x, e := Develop(c.t, 0)
		if e != c.e || e != api.OK && !isNone(x) {
			t.Errorf("%s: error %d, want %d", what, e, c.e)
		}
	}
}

func TestN2Eta(t *testing.T) {
	for _, c := range []struct{ text, want string }{
		{"c1", "c1"},
		{"v w", "v w"},
		{`\y.y`, `\y.y`},
		{`\y.c1 y`, "c1"},
		{`\y.w y`, "w"},
		{`\y.v w y`, "v w"},
		{`\y.y y`, `\y.y y`},
		{`\y.c1 y y`, `\y.c1 y y`},
		{`\y.c1 (y)`, "c1"},
		{`\y.c1 c2`, `\y.c1 c2`},
		{`\y.c1 w`, `\y.c1 w`},
		{`\y.\z.c1 y z`, "c1"},
		{`\y.\z.c1 z y`, `\y.\z.c1 z y`},
		{`\y.\z.y z`, `\y.y`},
		{`\y.\z.z y`, `\y.\z.z y`},
		{`\y.\z.c1 y`, `\y.\z.c1 y`},
		{`\y.c1 (\z.y z)`, "c1"},
		{`\y.\z.w (\u.z u)`, `\y.w`},
		{`\y.(\z.z) y`, `\z.z`},
		{`\y.(\z.v z) y`, "v"},
		{`\y.(\z.z y) y`, `\y.(\z.z y) y`},
		{`(\y.c1 y) (\y.c2 y)`, "c1 c2"},
		{`(\y.y) c1`, `(\y.y) c1`},
		{`\a.\y.(\z.a (w z) v) y`, `\a.\z.a (w z) v`},
		{`\a.\y.a v y`, `\a.a v`},
		{`\a.\b.\y.(\z.v a b) y`, `\a.\b.\z.v a b`},
		{`\y.\z.\u.c1 y z u`, "c1"},
	} {
		x, e := Eta(parsed(t, c.text), 2)
		if textOf(x) != textOf(parsed(t, c.want)) || e != api.OK {
			t.Errorf("Eta of %s: %s, error %d, want %s", c.text, textOf(x), e, c.want)
		}
	}
}

// calls tells what all calls answer: "none", if nothing, and their errors.
func calls(x api.Lam, under int) map[string]api.Errno {
	out := map[string]api.Errno{}
	tell := func(name string, none bool, e api.Errno) {
		if !none && e != api.OK {
			e = -e
		}
		out[name] = e
	}
	a, n, e := Normal(x, under, 9)
	tell("Normal", isNone(a) && n == 0, e)
	a, n, e = Strict(x, under, 9)
	tell("Strict", isNone(a) && n == 0, e)
	l, e := Steps(x, under)
	tell("Steps", len(l) == 0, e)
	a, e = Develop(x, under)
	tell("Develop", isNone(a), e)
	a, e = Eta(x, under)
	tell("Eta", isNone(a), e)
	return out
}

func TestN1TermsThatMayNotBe(t *testing.T) {
	for _, w := range sample.WrongLams() {
		for name, e := range calls(w.Lam, 0) {
			if e != w.Errno {
				t.Errorf("%s of %s: error %d, want %d", name, w.What, e, w.Errno)
			}
		}
		for _, under := range []int{-1, api.MaxList + 1} {
			for name, e := range calls(w.Lam, under) {
				if e != api.ErrPlace {
					t.Errorf("%s of %s, under %d: error %d, want %d", name, w.What, under, e, api.ErrPlace)
				}
			}
		}
	}
	for name, e := range calls(bound(api.MaxList-1), api.MaxList) {
		if e != api.OK {
			t.Errorf("%s, under MaxList: error %d", name, e)
		}
	}
}

func TestZ2FreshMemory(t *testing.T) {
	const text = `c1 ((\y.y v (y v)) (\z.z w)) (\y.v w y) (c2 w)`
	x := parsed(t, text)
	before := textOf(x)
	answer := func() []api.Lam {
		a, _, _ := Normal(x, 2, 9)
		b, _, _ := Strict(x, 2, 9)
		l, _ := Steps(x, 2)
		c, _ := Develop(x, 2)
		d, _ := Eta(x, 2)
		return append(l, a, b, c, d)
	}
	texts := func(l []api.Lam) string {
		s := ""
		for _, y := range l {
			s += textOf(y) + "; "
		}
		return s
	}
	want := texts(answer())
	for i := range answer() {
		l := answer()
		sample.SpoilLam(l[i])
		l[i] = answer()[i]
		if texts(l) != want || textOf(x) != before {
			t.Fatalf("answer %d: memory is shared", i)
		}
	}
	// What was put twice shares no memory either.
	y, _ := Develop(parsed(t, `(\y.y y) (c1 c2)`), 2)
	y.Subs[0].Subs[0] = konst(9)
	if textOf(y.Subs[1]) != textOf(parsed(t, "c1 c2")) {
		t.Error("Develop: what is put twice shares memory")
	}
	y, _, _ = Normal(parsed(t, `(\y.y y) (c1 c2)`), 2, 9)
	y.Subs[0].Subs[0] = konst(9)
	if textOf(y.Subs[1]) != textOf(parsed(t, "c1 c2")) {
		t.Error("Normal: what is put twice shares memory")
	}
}

// Great terms, many steps: all calls end soon.
func TestZ1EndsSoon(t *testing.T) {
	pair := binder(applied(bound(0), bound(0)))
	x := pair
	for range 30 {
		x = applied(pair, x)
	}
	calls(x, 0)
	for name, run := range runs() {
		if _, _, e := run(x, 0, api.MaxFuel); e == api.OK {
			t.Errorf("%s: no error", name)
		}
	}
	calls(nested(api.MaxNodes-1, konst(0)), 0)
	calls(nested(api.MaxNodes/3, applied(binder(bound(0)), bound(0))), 0)
}
