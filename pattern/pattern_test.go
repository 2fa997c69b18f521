package pattern

import (
	"slices"
	"strconv"
	"testing"

	"metaprune/api"
	"metaprune/lambda"
	"metaprune/sample"
)

var (
	bound   = sample.Bound
	konst   = sample.Const
	meta    = sample.Meta
	binder  = sample.Binder
	nested  = sample.Binders
	applied = sample.Applied
	row     = sample.Row
	textOf  = sample.LamText
	isNone  = sample.IsNoLam
)

// parsed reads a lambda term in which m0, m1, .. are the unknowns.
func parsed(t *testing.T, text string) api.Lam {
	t.Helper()
	var free []string
	for i := range api.MaxMetas {
		free = append(free, "m"+strconv.Itoa(i))
	}
	x, e := lambda.Parse(text, free)
	if e != api.OK {
		t.Fatalf("%s: error %d", text, e)
	}
	return withUnknowns(x, 0)
}

func parsedAll(t *testing.T, texts []string) []api.Lam {
	t.Helper()
	var l []api.Lam
	for _, text := range texts {
		l = append(l, parsed(t, text))
	}
	return l
}

// withUnknowns has the unknowns stand for what is bound from outside.
func withUnknowns(x api.Lam, deep int) api.Lam {
	if x.Kind == api.Bound && x.Index >= deep {
		return meta(api.MaxMetas - 1 - (x.Index - deep))
	}
	if x.Kind == api.Lambda {
		deep++
	}
	out := api.Lam{Kind: x.Kind, Index: x.Index}
	for _, s := range x.Subs {
		out.Subs = append(out.Subs, withUnknowns(s, deep))
	}
	return out
}

// goalsOf reads goals: two texts each.
func goalsOf(t *testing.T, texts ...string) []api.Goal {
	t.Helper()
	var l []api.Goal
	for two := range slices.Chunk(texts, 2) {
		l = append(l, api.Goal{Left: parsed(t, two[0]), Right: parsed(t, two[1])})
	}
	return l
}

func textsOf(l []api.Lam) []string {
	var out []string
	for _, x := range l {
		out = append(out, textOf(x))
	}
	return out
}

func goalTexts(l []api.Goal) []string {
	var out []string
	for _, g := range l {
		out = append(out, textOf(g.Left)+" = "+textOf(g.Right))
	}
	return out
}

func TestS1GoalsThatMayBe(t *testing.T) {
	for what, c := range map[string]struct {
		metas int
		goals []api.Goal
	}{
		"nothing":                       {0, nil},
		"no goals, all unknowns":        {4, nil},
		"an empty list":                 {4, []api.Goal{}},
		"no unknowns":                   {0, goalsOf(t, `\a.a`, `\a.\b.a (b c39)`)},
		"one without anything":          {1, goalsOf(t, `m0`, `m0`)},
		"the last one":                  {4, goalsOf(t, `m3`, `\a.m2 a`)},
		"applied to all, turned round":  {2, goalsOf(t, `\a.\b.\d.m0 a b d`, `\a.\b.\d.m0 d b a`)},
		"one of the many things":        {2, goalsOf(t, `\a.\b.m0 a`, `\a.\b.m0 b`)},
		"unlike ones take unlike many":  {3, goalsOf(t, `\a.\b.c0 (m0 a b) (m1 a) m2`, `\a.\b.c0 (m0 b a) (m1 b) m2`)},
		"as many in all goals":          {2, goalsOf(t, `\a.m0 a`, `\a.a`, `\a.\b.m0 b`, `\a.\b.m1 a b`, `\a.m0 a`, `\a.\b.m1 b a`)},
		"a thing applied":               {1, goalsOf(t, `\a.a (m0 a) (\b.m0 b)`, `\a.a a a`)},
		"a binder to which is applied":  {1, goalsOf(t, `c0 (\a.m0 a)`, `\a.a (\b.b)`)},
		"24 knots":                      {1, []api.Goal{{Left: nested(23, konst(0)), Right: binder(applied(row(11, konst(0)), meta(0)))}}},
		"24 knots, one unknown to many": {1, []api.Goal{{Left: konst(0), Right: nested(11, toThings(0, 6))}}},
		"four of no goal":               {4, goalsOf(t, `c0`, `c1`)},
	} {
		if e := Check(c.metas, c.goals); e != api.OK {
			t.Errorf("Check: %s: error %d", what, e)
		}
	}
}

// toThings is an unknown, applied to so many things.
func toThings(number, many int) api.Lam {
	x := meta(number)
	for i := range many {
		x = applied(x, bound(i))
	}
	return x
}

// wrong: goals that may not be, and what is told of them.
type wrong struct {
	metas int
	goals []api.Goal
	e     api.Errno
}

func wrongGoals(t *testing.T) map[string]wrong {
	free := applied(binder(bound(0)), konst(0)) // a binder is applied
	one := func(l, r api.Lam) []api.Goal { return []api.Goal{{Left: l, Right: r}} }
	right := konst(0)
	l := map[string]wrong{
		"-1 unknowns":                     {-1, nil, api.ErrLimit},
		"5 unknowns":                      {5, nil, api.ErrLimit},
		"the most of all":                 {1<<63 - 1, nil, api.ErrLimit},
		"the least of all":                {-1 << 63, nil, api.ErrLimit},
		"4 goals":                         {4, slices.Repeat(one(right, right), 4), api.ErrLimit},
		"many goals":                      {4, make([]api.Goal, 1<<16), api.ErrLimit},
		"5 unknowns, and a wrong side":    {5, one(bound(0), right), api.ErrLimit},
		"4 goals, and a wrong side":       {1, slices.Repeat(one(bound(0), right), 4), api.ErrLimit},
		"an unknown of none":              {0, one(meta(0), right), api.ErrOpen},
		"an unknown beyond":               {3, one(right, binder(meta(3))), api.ErrOpen},
		"unknown -1":                      {3, one(meta(-1), right), api.ErrOpen},
		"an unknown with one below":       {3, one(api.Lam{Kind: api.Meta, Subs: []api.Lam{right}}, right), api.ErrForm},
		"25 knots":                        {1, one(nested(24, right), right), api.ErrLimit},
		"25 knots on the right":           {1, one(right, nested(24, right)), api.ErrLimit},
		"25 knots, the last one wrong":    {1, one(nested(24, bound(24)), right), api.ErrOpen},
		"25 knots, then something wrong":  {1, one(nested(24, right), bound(0)), api.ErrLimit},
		"wrong, then 25 knots":            {1, one(bound(0), nested(24, right)), api.ErrOpen},
		"25 knots, then the next goal":    {1, append(one(right, nested(24, right)), one(api.Lam{}, right)...), api.ErrLimit},
		"the third goal's right side":     {1, append(one(right, right), append(one(right, right), one(right, bound(0))...)...), api.ErrOpen},
		"a binder applied":                {1, one(free, right), api.ErrForm},
		"a binder applied, deep":          {1, one(right, binder(applied(bound(0), binder(applied(bound(0), free))))), api.ErrForm},
		"a binder applied to two":         {1, one(right, applied(nested(2, bound(0)), right, right)), api.ErrForm},
		"a binder applied, to an unknown": {1, one(right, applied(binder(bound(0)), meta(0))), api.ErrForm},
		"that, and then no kind":          {1, one(free, api.Lam{}), api.ErrForm},
		"that, then something open":       {1, one(free, bound(0)), api.ErrOpen},
		"that, then 25 knots":             {1, one(free, nested(24, right)), api.ErrLimit},
		"that, then the next goal open":   {1, append(one(free, right), one(right, bound(0))...), api.ErrOpen},
		"that, then the next goal great":  {1, append(one(right, free), one(right, sample.EndlessLam())...), api.ErrLimit},
		"an unknown to a constant":        {1, one(applied(meta(0), right), right), api.ErrForm},
		"an unknown to an unknown":        {2, one(applied(meta(0), meta(1)), right), api.ErrForm},
		"an unknown to itself":            {2, one(applied(meta(0), meta(0)), right), api.ErrForm},
		"an unknown to a binder":          {1, goalsOf(t, `\a.m0 (\b.a b)`, `c0`), api.ErrForm},
		"an unknown to an Apply":          {1, goalsOf(t, `\a.\b.m0 (a b)`, `c0`), api.ErrForm},
		"to a thing, then a constant":     {1, goalsOf(t, `\a.m0 a c0`, `c0`), api.ErrForm},
		"to a constant, then a thing":     {1, goalsOf(t, `\a.m0 c0 a`, `c0`), api.ErrForm},
		"twice to a thing":                {1, goalsOf(t, `\a.m0 a a`, `c0`), api.ErrForm},
		"twice to a thing, not at once":   {1, goalsOf(t, `\a.\b.m0 a b a`, `c0`), api.ErrForm},
		"deep within":                     {1, goalsOf(t, `c0`, `\a.c0 (\b.a (m0 b b))`), api.ErrForm},
		"to one, then to none":            {1, goalsOf(t, `\a.m0 a`, `\a.m0`), api.ErrForm},
		"to none, then to one":            {1, goalsOf(t, `\a.m0`, `\a.m0 a`), api.ErrForm},
		"to one and two, on one side":     {1, goalsOf(t, `\a.\b.c0 (m0 a) (m0 a b)`, `c0`), api.ErrForm},
		"to one and two, in two goals":    {2, goalsOf(t, `\a.m0 a`, `\a.m1 a`, `c0`, `\a.\b.m1 a b`), api.ErrForm},
		"to one and two, in far goals":    {2, goalsOf(t, `\a.m1 a`, `c0`, `c0`, `c0`, `c0`, `\a.\b.m1 a b`), api.ErrForm},
	}
	for _, w := range sample.WrongLams() {
		metas := 0
		l["left: "+w.What] = wrong{metas, one(w.Lam, right), w.Errno}
		l["right: "+w.What] = wrong{metas, one(right, w.Lam), w.Errno}
		l["a second goal: "+w.What] = wrong{metas, append(one(right, right), one(w.Lam, right)...), w.Errno}
	}
	return l
}

func TestS1GoalsThatMayNotBe(t *testing.T) {
	for what, w := range wrongGoals(t) {
		if e := Check(w.metas, w.goals); e != w.e {
			t.Errorf("Check: %s: error %d, want %d", what, e, w.e)
		}
	}
}

func TestS2SolveSaysWhatCheckSays(t *testing.T) {
	for what, w := range wrongGoals(t) {
		l, n, e := Solve(w.metas, w.goals)
		if e != w.e || len(l) != 0 || n != 0 {
			t.Errorf("Solve: %s: %v, %d, error %d, want %d", what, textsOf(l), n, e, w.e)
		}
	}
}

// An unknown may be hidden in what stands behind a list.
func TestZ2NothingBeyondIsRead(t *testing.T) {
	goals := []api.Goal{{Left: konst(0), Right: konst(0)}, {Left: bound(0), Right: bound(0)}}
	if e := Check(0, goals[:1]); e != api.OK {
		t.Errorf("Check: error %d", e)
	}
	beyond := []api.Lam{konst(1), konst(2), bound(0), konst(0), konst(0)}
	x := applied(meta(0), meta(1))
	x.Subs = append(x.Subs, bound(0))[:2]
	if y, e := Put(x, beyond[:2], 0); textOf(y) != textOf(applied(konst(1), konst(2))) || e != api.OK {
		t.Errorf("Put: %s, error %d", textOf(y), e)
	}
	if _, e := Put(meta(2), beyond[:2], 0); e != api.ErrOpen {
		t.Errorf("Put of an unknown beyond: error %d", e)
	}
}

func TestZ2SolveIsFresh(t *testing.T) {
	texts := []string{`\a.\b.m0 a b`, `\a.\b.c0 (m1 a) (a (\d.m2 d b))`, `\a.\b.m3 a b`, `\a.\b.m0 b a`}
	goals := goalsOf(t, texts...)
	l, n, e := Solve(4, goals)
	if e != api.OK || n != 2 {
		t.Fatalf("%v, %d, error %d", textsOf(l), n, e)
	}
	first := textsOf(l)
	if want := goalTexts(goalsOf(t, texts...)); !slices.Equal(goalTexts(goals), want) {
		t.Fatal("goals were written into")
	}
	again, _, _ := Solve(4, goals)
	for i := range l {
		kept := textsOf(l[i+1:])
		sample.SpoilLam(l[i])
		if !slices.Equal(textsOf(l[i+1:]), kept) {
			t.Fatal("two terms share memory")
		}
	}
	if want := goalTexts(goalsOf(t, texts...)); !slices.Equal(goalTexts(goals), want) {
		t.Fatal("memory is shared with the goals")
	}
	if !slices.Equal(textsOf(again), first) {
		t.Fatal("two calls share memory, or answer otherwise")
	}
}

func TestZ2SubsAreFresh(t *testing.T) {
	l, _, e := Solve(2, goalsOf(t, `\a.\b.m0 a b`, `\a.\b.c0 (m1 a) (m1 a) (m1 b) (\d.a) (\d.a)`))
	if e != api.OK {
		t.Fatalf("error %d", e)
	}
	sharesNothing(t, l[0])
	x, e := Put(applied(konst(0), meta(0), meta(0)), []api.Lam{applied(konst(1), binder(bound(0)))}, 0)
	if e != api.OK {
		t.Fatalf("error %d", e)
	}
	sharesNothing(t, x)
}

// sharesNothing writes into each list of a term, and looks whether another one shows it.
func sharesNothing(t *testing.T, x api.Lam) {
	t.Helper()
	seen := map[*api.Lam]int{}
	var walk func(api.Lam)
	walk = func(y api.Lam) {
		if len(y.Subs) > 0 {
			seen[&y.Subs[0]]++
		}
		for _, s := range y.Subs {
			walk(s)
		}
	}
	walk(x)
	for _, n := range seen {
		if n > 1 {
			t.Fatalf("%s: two lists share memory", textOf(x))
		}
	}
}

func TestZ2PutIsFresh(t *testing.T) {
	x, with := parsed(t, `\a.c0 (m0 a) (m1 (\b.m0))`), []api.Lam{parsed(t, `\a.a (\b.c1 b b) m4`), parsed(t, `c2 (\a.a a)`)}
	for _, most := range []int{400, 1} {
		text, texts := textOf(x), textsOf(with)
		y, e := Put(x, with, most)
		if e != api.OK {
			t.Fatalf("error %d", e)
		}
		sample.SpoilLam(y)
		if textOf(x) != text || !slices.Equal(textsOf(with), texts) {
			t.Fatal("memory is shared, or written into")
		}
	}
}

// anything is a term of any kinds and numbers, with any number of terms below.
func anything(d *sample.Die, deep int) api.Lam {
	x := api.Lam{Kind: 1 + d.Roll(5), Index: d.Roll(3)}
	subs := []int{0, 1, 2, 0, 0}[x.Kind-1]
	switch d.Roll(40) {
	case 0:
		x.Kind = d.Roll(9) - 2
	case 1:
		x.Index = d.Roll(90) - 45
	case 2:
		subs = d.Roll(4)
	}
	for range subs {
		if deep > 0 {
			x.Subs = append(x.Subs, anything(d, deep-1))
		}
	}
	return x
}

// No call panics, and beside an error nothing else is told, whatever is given.
func TestZ1Anything(t *testing.T) {
	d := sample.Die(5)
	told := map[api.Errno]int{}
	for range 30000 {
		metas, goals := d.Roll(7)-1, []api.Goal(nil)
		for range d.Roll(5) {
			goals = append(goals, api.Goal{Left: anything(&d, 4), Right: anything(&d, 4)})
		}
		e := Check(metas, goals)
		l, n, f := Solve(metas, goals)
		if told[f]++; e != api.OK && e != f || f != api.OK && (len(l) != 0 || n != 0) || f == api.OK && len(l) != metas {
			t.Fatalf("%d, %q: error %d; %v, %d, error %d", metas, goalTexts(goals), e, textsOf(l), n, f)
		}
		var with []api.Lam
		for _, g := range goals {
			with = append(with, binder(g.Left))
		}
		x, e := Put(binder(anything(&d, 4)), with, d.Roll(20)-1)
		if told[e]++; e != api.OK && !isNone(x) {
			t.Fatalf("Put: %s, error %d", textOf(x), e)
		}
	}
	for _, e := range []api.Errno{api.OK, api.ErrForm, api.ErrLimit, api.ErrNone, api.ErrPlace, api.ErrOpen} {
		if told[e] < 20 {
			t.Errorf("how often errors were told: %v", told)
		}
	}
}
