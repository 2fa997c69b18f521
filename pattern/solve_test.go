package pattern

import (
	"testing"

	"metaprune/api"
	"metaprune/reduce"
	"metaprune/sample"
)

func TestS2Solve(t *testing.T) {
	for _, c := range []struct {
		goals, want []string
	}{
		// nothing is asked for
		{nil, []string{}},
		{nil, []string{`m0`, `m1`, `m2`, `m3`}},
		{[]string{`c0`, `c0`}, []string{`m0`}},
		{[]string{`m1`, `m1`}, []string{`m0`, `m1`}},
		{[]string{`\a.\b.m0 a b`, `\a.\b.m0 a b`}, []string{`m0`}},
		{[]string{`\a.\b.m0 b a`, `\a.\b.m0 b a`}, []string{`m0`}},
		// those of the document
		{[]string{`\a.\b.m0 a b`, `\a.\b.c0 (m1 b)`}, []string{`\a.\b.c0 (m0 b)`, `m0`}},
		{[]string{`\a.\b.m0 a b`, `\a.\b.m1 b`}, []string{`\a.m0`, `m0`}},
		// an unknown and a term
		{[]string{`m0`, `c1`}, []string{`c1`}},
		{[]string{`\a.\b.a b c2`, `m0`}, []string{`\a.\b.a b c2`}},
		{[]string{`\a.m0 a`, `\a.a`}, []string{`\a.a`}},
		{[]string{`\a.\b.\d.m0 d a`, `\a.\b.\d.d (a d)`}, []string{`\a.\b.a (b a)`}},
		{[]string{`\a.\b.m0 b a`, `\a.\b.c0 (\d.d b a)`}, []string{`\a.\b.c0 (\d.d a b)`}},
		{[]string{`\a.m0`, `\a.c0 c1`}, []string{`c0 c1`}},
		{[]string{`\a.m0 a`, `c0`}, []string{`c0`}},
		{[]string{`\a.m0 a`, `\a.c0 a`}, []string{`c0`}},
		{[]string{`\a.m0 a`, `m1`}, []string{`m0`, `m0`}},
		{[]string{`m1`, `\a.\b.m0 b a`}, []string{`m0`, `\a.\b.m0 b a`}},
		{[]string{`\a.m0 a`, `\a.\b.\d.m1 d a b`}, []string{`m0`, `\a.\b.\d.m0 b d a`}},
		{[]string{`\a.\b.m0 a b`, `\a.m1 a`}, []string{`m0`, `m0`}},
		// an unknown and itself
		{[]string{`\a.\b.m0 a b`, `\a.\b.m0 b a`}, []string{`\a.\b.m0`}},
		{[]string{`\a.\b.\d.m0 a b d`, `\a.\b.\d.m0 b a d`}, []string{`\a.\b.m0`}},
		{[]string{`\a.\b.m0 a`, `\a.\b.m0 b`}, []string{`\a.m0`}},
		{[]string{`\a.\b.\d.m0 a b d`, `\a.\b.\d.m0 a d b`}, []string{`\a.\b.\d.m0 a`}},
		// an unknown and another one
		{[]string{`\a.\b.m0 a b`, `\a.\b.m1 b a`}, []string{`m0`, `\a.\b.m0 b a`}},
		{[]string{`\a.\b.\d.m0 a b`, `\a.\b.\d.m1 d b`}, []string{`\a.m0`, `\a.m0`}},
		{[]string{`\a.\b.m0 a`, `\a.\b.m1 b`}, []string{`\a.m0`, `\a.m0`}},
		{[]string{`\a.m0 a`, `\a.m1`}, []string{`\a.m0`, `m0`}},
		// pruned below others
		{[]string{`\a.\b.m0 a`, `\a.\b.c0 (m1 a b)`}, []string{`\a.c0 (m0 a)`, `\a.\b.m0 a`}},
		{[]string{`\a.\b.m0 a`, `\a.\b.c0 (\d.m1 d b a)`}, []string{`\a.c0 (\d.m0 d a)`, `\a.\b.\d.m0 a d`}},
		{[]string{`\a.\b.m0 a`, `\a.\b.c0 (m1 a b) (m1 b a)`}, []string{`\a.c0 m0 m0`, `\a.\b.m0`}},
		{[]string{`\a.\b.m0 a`, `\a.\b.c0 (m1 a b) (m1 a b)`}, []string{`\a.c0 (m0 a) (m0 a)`, `\a.\b.m0 a`}},
		{[]string{`m0`, `\a.c0 (m1 a)`}, []string{`\a.c0 (m0 a)`, `m0`}},
		{[]string{`\a.m0`, `\a.c0 (m1 a)`}, []string{`c0 m0`, `\a.m0`}},
		{[]string{`\a.\b.m0 a`, `\a.\b.c0 (m1 b) (m2 a) (m3 a b)`}, []string{`\a.c0 m0 (m1 a) (m2 a)`, `\a.m0`, `m1`, `\a.\b.m2 a`}},
		// heads and what they are applied to
		{[]string{`\a.\b.a (m0 b) (m1 a)`, `\a.\b.a b (a a)`}, []string{`\a.a`, `\a.a a`}},
		{[]string{`c0 m0 m1 m2`, `c0 m1 m2 c1`}, []string{`c1`, `c1`, `c1`}},
		{[]string{`\a.a (\b.m0 a b)`, `\a.a (\b.b a)`}, []string{`\a.\b.b a`}},
		// one goal tells what stands in another one
		{[]string{`m0`, `c0 m1`, `m0`, `m2`, `m2`, `c0 c1`}, []string{`c0 c1`, `c1`, `c0 c1`}},
		{[]string{`\a.m0 a`, `\a.c0 (m1 a)`, `\a.\b.m0 a`, `\a.\b.m0 b`}, []string{`\a.c0 m0`, `\a.m0`}},
		{[]string{`\a.\b.m0 a b`, `\a.\b.m1 b a`, `\a.\b.m0 a b`, `\a.\b.m1 a b`}, []string{`\a.\b.m0`, `\a.\b.m0`}},
		// numbers as they come, in the first term, then the next one
		{[]string{`m2`, `c0 m3 m1`, `m0`, `c1 m1`}, []string{`c1 m0`, `m0`, `c0 m1 m0`, `m1`}},
		{[]string{`m3`, `c0 m2 m1`}, []string{`m0`, `m1`, `m2`, `c0 m2 m1`}},
		// unlike many binders, \x.f x and f being one
		{[]string{`\a.c0 (m0 a)`, `c0`}, []string{`\a.a`}},
		{[]string{`c0 c1`, `\a.\b.c0 c1 (m0 b a) (m1 a b)`}, []string{`\a.\b.b`, `\a.\b.b`}},
		{[]string{`\a.\b.\d.a (m0 b) d`, `\a.a`}, []string{`\a.a`}},
		{[]string{`\a.a (\b.m0 b a)`, `\a.a a`}, []string{`\a.\b.b a`}},
		{[]string{`\a.\b.m0 a b`, `c0`}, []string{`c0`}},
		{[]string{`\a.a (\b.\d.m0 b d a)`, `\a.a (m1 a)`}, []string{`m0`, `\a.\b.\d.m0 b d a`}},
		{[]string{`\a.\b.c0 a (m0 b)`, `\a.c0 (m1 a)`}, []string{`\a.a`, `\a.a`}},
	} {
		solvesAs(t, goalsOf(t, c.goals...), parsedAll(t, c.want))
	}
}

// solvesAs asks for terms that are the same but for what is free.
func solvesAs(t *testing.T, goals []api.Goal, want []api.Lam) {
	t.Helper()
	got, n, e := Solve(len(want), goals)
	if e != api.OK || n != unknownsIn(want) || !alike(got, want) {
		t.Errorf("Solve of %q: %v, %d, error %d, want %v", goalTexts(goals), textsOf(got), n, e, textsOf(want))
		return
	}
	isTold(t, goals, got, n)
	if !areOne(t, goals, got) {
		t.Errorf("Solve of %q: %v doesn't make them one", goalTexts(goals), textsOf(got))
	}
}

func unknownsIn(l []api.Lam) int {
	numbers := map[int]int{}
	for _, x := range l {
		eachKnot(x, func(y api.Lam) {
			if y.Kind == api.Meta {
				numbers[y.Index]++
			}
		})
	}
	return len(numbers)
}

func eachKnot(x api.Lam, do func(api.Lam)) {
	do(x)
	for _, s := range x.Subs {
		eachKnot(s, do)
	}
}

// isTold asks for all that is said of the terms that Solve tells, but for what they do.
func isTold(t *testing.T, goals []api.Goal, l []api.Lam, n int) {
	t.Helper()
	next := 0
	for _, x := range l {
		eachKnot(x, func(y api.Lam) {
			if y.Kind == api.Meta && y.Index == next {
				next++
			}
			if y.Kind == api.Meta && y.Index >= next {
				t.Errorf("Solve of %q: %v: number %d comes too early", goalTexts(goals), textsOf(l), y.Index)
			}
		})
		if y, steps, e := reduce.Normal(standing(x), 0, 0); e != api.OK || steps != 0 {
			t.Errorf("Solve of %q: %s isn't worked out: error %d", goalTexts(goals), textOf(x), e)
		} else if y, e := reduce.Eta(y, 0); e != api.OK || textOf(y) != textOf(standing(x)) {
			t.Errorf("Solve of %q: %s isn't behind Eta: error %d", goalTexts(goals), textOf(x), e)
		}
		if !appliedToThings(x) {
			t.Errorf("Solve of %q: %s: an unknown is applied to something else", goalTexts(goals), textOf(x))
		}
	}
	if next != n {
		t.Errorf("Solve of %q: %v: %d unknowns, %d are told", goalTexts(goals), textsOf(l), next, n)
	}
}

func appliedToThings(x api.Lam) bool {
	seen := map[int]int{}
	for y := x; headOf(x).Kind == api.Meta && y.Kind == api.Apply; y = y.Subs[0] {
		if seen[y.Subs[1].Index]++; y.Subs[1].Kind != api.Bound || seen[y.Subs[1].Index] > 1 {
			return false
		}
	}
	for _, s := range x.Subs {
		if !appliedToThings(s) {
			return false
		}
	}
	return true
}

func TestS2NothingMakesThemOne(t *testing.T) {
	for _, texts := range [][]string{
		{`c0`, `c1`},
		{`\a.\b.a`, `\a.\b.b`},
		{`\a.a`, `c0`},
		{`\a.a`, `\a.\b.a`},
		{`c0 c1`, `c0`},
		{`c0 c1`, `c0 c1 c1`},
		{`\a.m0`, `\a.a`},
		{`\a.\b.m0 a`, `\a.\b.b`},
		{`\a.\b.m0 a`, `\a.\b.c0 b`},
		{`\a.\b.c0 (a b)`, `\a.\b.m0 b`},
		{`\a.\b.m0 a`, `\a.\b.c0 (m1 b) b`},
		{`\a.m0 a`, `\a.c0 (m0 a)`},
		{`m0`, `c0 m0`},
		{`m0`, `\a.m0`},
		{`\a.\b.m0 a`, `\a.m0 a`},
		{`\a.m0 a`, `\a.\b.\d.m0 d`},
		{`\a.m0 a`, `\a.a (m0 a)`},
		{`\a.m0 a`, `\a.\b.c0 (m0 b)`},
		{`\a.m0 a`, `\a.\b.b (m0 a)`},
		{`\a.m0 a`, `\a.\b.a (m0 a)`},
		{`\a.\b.m0 a b`, `\a.\b.\d.a (m0 b d)`},
		{`\a.m0 a`, `\a.\b.a (c0 (m0 b))`},
		{`\a.m0 a`, `\a.\b.\d.a (m0 d) (m0 b)`},
		{`\a.c0 (m0 a)`, `c1`},
		{`\a.c0 (m0 a)`, `c0 c0`},
		{`c0 m0 m0`, `c0 c1 c2`},
		{`m0`, `c0 m1`, `m1`, `c0 m0`},
		{`m0`, `c0`, `m0`, `c1`},
		{`m0`, `m1`, `m0`, `c0`, `m1`, `c1`},
		{`\a.\b.m0 a b`, `\a.\b.m0 b a`, `\a.\b.m0 a b`, `\a.\b.a`},
		{`\a.\b.m0 a b`, `\a.\b.m1 a`, `\a.\b.m0 a b`, `\a.\b.m1 b`, `\a.m1 a`, `\a.a`},
		{`\a.m0 a`, `\a.\b.a (m1 b)`, `\a.m1 a`, `\a.\b.a (m0 b)`, `\a.m0 a`, `c0`},
	} {
		goals := goalsOf(t, texts...)
		if l, n, e := Solve(2, goals); e != api.ErrNone || len(l) != 0 || n != 0 {
			t.Errorf("Solve of %q: %v, %d, error %d", texts, textsOf(l), n, e)
		}
	}
}

// An unknown may stand within what it is to be, where that is \y.x y, and so x.
func TestS2WithinItself(t *testing.T) {
	for _, c := range []struct{ goals, want []string }{
		{[]string{`\a.m0 a`, `\a.\b.a (m0 b)`}, []string{`\a.a`}},
		{[]string{`\a.\b.a (m0 b)`, `\a.m0 a`}, []string{`\a.a`}},
		{[]string{`\a.\b.m0 a b`, `\a.\b.\d.b (m0 a d)`}, []string{`\a.\b.b`}},
		{[]string{`\a.\b.m0 a b`, `\a.\b.\d.a (m0 d b)`}, []string{`\a.\b.a`}},
		{[]string{`\a.m0 a`, `\a.\b.\d.a (m0 b) (m0 d)`}, []string{`\a.a`}},
		{[]string{`\a.m0 a`, `\a.\b.a (\d.b (m0 d))`}, []string{`\a.a`}},
		{[]string{`\a.m0 a`, `\a.\b.\d.a (m1 b) (m0 d)`}, []string{`\a.a`, `\a.a`}},
		{[]string{`\a.m0 a`, `\a.\b.a (m1 b)`, `\a.m1 a`, `\a.\b.a (m0 b)`}, []string{`\a.a`, `\a.a`}},
		{[]string{`\a.\b.m0 a`, `\a.\b.\d.a (m1 d b)`, `\a.m0 a`, `\a.\b.a (m0 b)`}, []string{`\a.a`, `\a.\b.a`}},
	} {
		solvesAs(t, goalsOf(t, c.goals...), parsedAll(t, c.want))
	}
}

// Of goals that hold by terms, the answer must be what these come of.
func TestS2WhateverDoesThatComesOfThese(t *testing.T) {
	d := drawer{Die: 11}
	left := map[int]int{}
	for range 6000 {
		goals, with := d.goals(true)
		l, n, e := Solve(len(with), goals)
		if e != api.OK {
			t.Fatalf("Solve of %q: error %d, want %v", goalTexts(goals), e, textsOf(with))
		}
		left[n]++
		isTold(t, goals, l, n)
		if !areOne(t, goals, with) || !areOne(t, goals, l) || !comesOf(l, with) {
			t.Fatalf("Solve of %q: %v, want what %v comes of", goalTexts(goals), textsOf(l), textsOf(with))
		}
	}
	for n := range 5 {
		if left[n] < 100 {
			t.Errorf("how many answers have so many unknowns: %v", left)
		}
	}
}

// Whatever is put for the unknowns of the answer, both sides are one.
func TestS2WhateverIsPutForThese(t *testing.T) {
	d := drawer{Die: 12}
	told := map[api.Errno]int{}
	for range 6000 {
		goals, _ := d.goals(d.Roll(3) > 0)
		l, n, e := Solve(len(d.many), goals)
		if told[e]++; e != api.OK {
			continue
		}
		isTold(t, goals, l, n)
		d.many = make([]int, n)
		with := d.closedOnes(2)
		for i, x := range l {
			y, e := plainPut(x, with, api.MaxFuel)
			if e != api.OK {
				t.Fatalf("%s: error %d", textOf(x), e)
			}
			l[i] = y
		}
		if !areOne(t, goals, l) {
			t.Fatalf("Solve of %q: %v", goalTexts(goals), textsOf(l))
		}
	}
	if told[api.OK] < 1000 || told[api.ErrNone] < 500 || len(told) != 2 {
		t.Errorf("%v", told)
	}
}

// The sides of a goal, and the goals, may be turned round: what is told is the same.
func TestS2TurnedRound(t *testing.T) {
	d := drawer{Die: 13}
	for range 3000 {
		goals, _ := d.goals(d.Roll(3) > 0)
		a, n, e := Solve(len(d.many), goals)
		for range 3 {
			i, j := d.Roll(len(goals)), d.Roll(len(goals))
			goals[i], goals[j] = goals[j], goals[i]
			goals[i].Left, goals[i].Right = goals[i].Right, goals[i].Left
			b, m, f := Solve(len(d.many), goals)
			if e != f || n != m || e == api.OK && !alike(a, b) {
				t.Fatalf("Solve of %q: %v, %d, error %d, turned round %v, %d, error %d", goalTexts(goals), textsOf(a), n, e, textsOf(b), m, f)
			}
		}
	}
}

// smallOnes are all terms under so many binders, worked out, of so many knots.
func smallOnes(knots, under int) []api.Lam {
	l := smallRows(knots, under)
	if knots > 1 {
		for _, x := range smallOnes(knots-1, under+1) {
			l = append(l, binder(x))
		}
	}
	return l
}

func smallRows(knots, under int) []api.Lam {
	var l []api.Lam
	if knots == 1 {
		l = append(l, konst(0))
		for i := range under {
			l = append(l, bound(i))
		}
	}
	for first := 1; first < knots-1; first++ {
		for _, f := range smallRows(first, under) {
			for _, x := range smallOnes(knots-1-first, under) {
				l = append(l, applied(f, x))
			}
		}
	}
	return l
}

// allSmall are terms for an unknown that is applied to so many things.
func allSmall(most, many int) []api.Lam {
	var l []api.Lam
	for knots := 1; knots <= most; knots++ {
		for _, x := range smallOnes(knots, many) {
			l = append(l, nested(many, x))
		}
	}
	return l
}

// All small terms are tried: where none is told there is none of these; else those
// that make both sides one come of what is told.
func TestS2AllSmallTermsTried(t *testing.T) {
	d := drawer{Die: 14}
	told := map[api.Errno]int{}
	hits := 0
	for range 1000 {
		d.many = []int{d.Roll(3)}
		most := 5
		if d.Roll(3) == 0 {
			d.many = append(d.many, d.Roll(3))
			most = 3
		}
		goals := []api.Goal{d.goal(nil, false)}
		if Check(len(d.many), goals) != api.OK {
			continue
		}
		l, _, e := Solve(len(d.many), goals)
		told[e]++
		for with := range choices(d.many, most) {
			if !areOne(t, goals, with) {
				continue
			}
			if hits++; e != api.OK || !comesOf(l, with) {
				t.Fatalf("Solve of %q: %v, error %d, but %v does it", goalTexts(goals), textsOf(l), e, textsOf(with))
			}
		}
	}
	if told[api.OK] < 100 || told[api.ErrNone] < 100 || hits < 1000 {
		t.Errorf("%v, %d", told, hits)
	}
}

// choices are all small terms for one unknown, or for two.
func choices(many []int, most int) func(func([]api.Lam) bool) {
	return func(yield func([]api.Lam) bool) {
		for _, x := range allSmall(most, many[0]) {
			if len(many) == 1 {
				if !yield([]api.Lam{x}) {
					return
				}
				continue
			}
			for _, y := range allSmall(most, many[1]) {
				if !yield([]api.Lam{x, y}) {
					return
				}
			}
		}
	}
}

// What is told may have far more knots than what is given, or than Put takes.
func TestZ1SolveEndsSoon(t *testing.T) {
	wide := func(x api.Lam) api.Lam {
		return applied(konst(0), x, x, x, x, x, x, x, x, x, x, x)
	}
	goals := []api.Goal{
		{Left: meta(0), Right: wide(meta(1))},
		{Left: wide(meta(2)), Right: meta(1)},
		{Left: meta(2), Right: wide(meta(3))},
	}
	l, n, e := Solve(4, goals)
	if e != api.OK || n != 1 || sample.LamCount(l[0]) != 1+11*(1+1+11*(1+1+11*2)) {
		t.Errorf("%d knots, %d unknowns, error %d", sample.LamCount(l[0]), n, e)
	}
	goals[0].Right = wide(meta(2))
	goals[1].Right = meta(0)
	if l, n, e = Solve(4, goals); e != api.OK || n != 2 {
		t.Errorf("%v, %d, error %d", textsOf(l), n, e)
	}
	twice := func(x, y api.Lam) api.Lam { return applied(konst(0), x, y) }
	four := func(a, b, c, d api.Lam) api.Lam { return twice(twice(a, b), twice(c, d)) }
	m := []api.Lam{meta(0), meta(1), meta(2), meta(3)}
	goals = []api.Goal{
		{Left: four(m[0], m[1], m[2], m[3]), Right: four(twice(m[1], m[1]), twice(m[2], m[2]), m[2], m[3])},
		{Left: m[2], Right: twice(m[3], m[3])},
		{Left: m[3], Right: m[0]},
	}
	if l, n, e = Solve(4, goals); e != api.ErrNone || len(l) != 0 || n != 0 {
		t.Errorf("%v, %d, error %d", textsOf(l), n, e)
	}
}
