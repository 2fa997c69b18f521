package reduce

import (
	"testing"

	"metaprune/api"
	"metaprune/sample"
)

// named is a lambda term with names: no two binders have the same.
func named(t api.Lam, under int) (sample.Named, []string) {
	count, outside := 0, sample.Outside(under)
	return sample.WithNames(t, outside, &count), outside
}

func isStep(n sample.Named) bool { return len(n.Subs) == 2 && len(n.Subs[0].Subs) == 1 }

func hasStep(n sample.Named) bool {
	if isStep(n) {
		return true
	}
	for _, s := range n.Subs {
		if hasStep(s) {
			return true
		}
	}
	return false
}

// plainSteps are all that n becomes by one step, knot by knot, those alone below
// which there is none, if that is asked.
func plainSteps(n sample.Named, strict bool) []sample.Named {
	var out []sample.Named
	below := false
	for _, s := range n.Subs {
		below = below || hasStep(s)
	}
	if isStep(n) && !(strict && below) {
		f := n.Subs[0]
		out = append(out, f.Subs[0].Replace(f.Name, n.Subs[1]))
	}
	for i, s := range n.Subs {
		for _, x := range plainSteps(s, strict) {
			y := sample.Named{Name: n.Name, Subs: append([]sample.Named{}, n.Subs...)}
			y.Subs[i] = x
			out = append(out, y)
		}
	}
	return out
}

// plainRun does word by word what the promise says of steps, one behind the other:
// names are given anew ahead of each.
func plainRun(t api.Lam, under, most int, strict bool) (api.Lam, int, api.Errno) {
	for done := 0; ; done++ {
		n, outside := named(t, under)
		l := plainSteps(n, strict)
		if len(l) == 0 {
			return t, done, api.OK
		}
		if done == most {
			return api.Lam{}, 0, api.ErrFuel
		}
		t = sample.WithoutNames(l[0], outside)
		if sample.LamCount(t) > api.MaxGrown {
			return api.Lam{}, 0, api.ErrFull
		}
	}
}

// plainDevelop works with names that no two binders share; what comes to be there
// twice is never bound within what comes for it. The knots of the greatest that some
// knot comes to are told beside it.
func plainDevelop(n sample.Named, greatest *int) sample.Named {
	out := sample.Named{Name: n.Name}
	for _, s := range n.Subs {
		out.Subs = append(out.Subs, plainDevelop(s, greatest))
	}
	if isStep(n) {
		f := out.Subs[0]
		out = f.Subs[0].Replace(f.Name, out.Subs[1])
	}
	*greatest = max(*greatest, out.Count())
	return out
}

// plainEta does away with one binder, the first one in its way; false: there is none.
func plainEta(n sample.Named) (sample.Named, bool) {
	if len(n.Subs) == 1 && len(n.Subs[0].Subs) == 2 {
		f, x := n.Subs[0].Subs[0], n.Subs[0].Subs[1]
		if len(x.Subs) == 0 && x.Name == n.Name && !f.Has(n.Name) {
			return f, true
		}
	}
	for i, s := range n.Subs {
		if x, ok := plainEta(s); ok {
			out := sample.Named{Name: n.Name, Subs: append([]sample.Named{}, n.Subs...)}
			out.Subs[i] = x
			return out, true
		}
	}
	return n, false
}

// drawn is a lambda term that may be, and under how many binders.
func drawn(d *sample.Die, deep int) (api.Lam, int) {
	under := d.Roll(4)
	for {
		if t := d.Lam(deep, under, 2); sample.LamCount(t) <= api.MaxNodes {
			return t, under
		}
	}
}

// drawnGreat is one that may grow: some of it is there many times.
func drawnGreat(d *sample.Die) (api.Lam, int) {
	x, under := drawn(d, 3)
	for range d.Roll(4) {
		x = applied(binder(row(d.Roll(9)+1, bound(0))), x)
	}
	return x, under
}

func TestN1RunsAreThoseOfNames(t *testing.T) {
	d := sample.Die(17)
	count := map[api.Errno]int{}
	for range 4000 {
		x, under := drawn(&d, 7)
		if d.Roll(4) == 0 {
			x, under = drawnGreat(&d)
		}
		most := d.Roll(40)
		for _, strict := range []bool{false, true} {
			run := Normal
			if strict {
				run = Strict
			}
			got, n, e := run(x, under, most)
			want, m, f := plainRun(x, under, most, strict)
			if textOf(got) != textOf(want) || n != m || e != f {
				t.Fatalf("%s, under %d, at most %d, strict %v: %s, %d, error %d, want %s, %d, error %d",
					textOf(x), under, most, strict, textOf(got), n, e, textOf(want), m, f)
			}
			if e == api.OK && n == 0 {
				e = -1
			}
			count[e]++
		}
	}
	for _, e := range []api.Errno{api.OK, -1, api.ErrFuel, api.ErrFull} {
		if count[e] < 5 {
			t.Errorf("error %d: only %d drawn", e, count[e])
		}
	}
}

func TestN1StepsAreThoseOfNames(t *testing.T) {
	d := sample.Die(19)
	for range 4000 {
		x, under := drawn(&d, 7)
		l, e := Steps(x, under)
		n, outside := named(x, under)
		want := plainSteps(n, false)
		if len(l) != len(want) || e != api.OK {
			t.Fatalf("Steps of %s: %d, error %d, want %d", textOf(x), len(l), e, len(want))
		}
		for i := range l {
			if w := sample.WithoutNames(want[i], outside); textOf(l[i]) != textOf(w) {
				t.Fatalf("Steps of %s: %d: %s, want %s", textOf(x), i, textOf(l[i]), textOf(w))
			}
		}
	}
}

func TestN2DevelopmentsAreThoseOfNames(t *testing.T) {
	d := sample.Die(23)
	full := 0
	for i := range 4000 {
		x, under := drawn(&d, 7)
		if i%3 == 0 {
			x, under = drawnGreat(&d)
		}
		n, outside := named(x, under)
		greatest, e := 0, api.OK
		want := sample.WithoutNames(plainDevelop(n, &greatest), outside)
		if greatest > api.MaxGrown {
			want, e = api.Lam{}, api.ErrFull
			full++
		}
		if got, f := Develop(x, under); textOf(got) != textOf(want) || f != e {
			t.Fatalf("Develop of %s: %s, error %d, want %s, error %d", textOf(x), textOf(got), f, textOf(want), e)
		}
	}
	if full < 20 || full > 2000 {
		t.Errorf("%d were too great", full)
	}
}

// Each step goes to the development: what a step made of a term comes to it, by
// steps that are left of those that the term had.
func TestN2EachStepGoesToTheDevelopment(t *testing.T) {
	d := sample.Die(37)
	for range 300 {
		x, under := drawn(&d, 5)
		end, e := Develop(x, under)
		if e != api.OK {
			continue
		}
		l, _ := Steps(x, under)
		for _, y := range l {
			if !reaches(y, under, textOf(end)) {
				t.Fatalf("%s: %s doesn't go to %s", textOf(x), textOf(y), textOf(end))
			}
		}
	}
}

// reaches: does x become the term of that text by some steps, of at most 3000 terms?
func reaches(x api.Lam, under int, text string) bool {
	seen := map[string]int{textOf(x): 1}
	l := []api.Lam{x}
	for i := 0; i < len(l) && len(l) < 3000; i++ {
		if textOf(l[i]) == text {
			return true
		}
		if sample.LamCount(l[i]) > api.MaxNodes {
			continue
		}
		next, _ := Steps(l[i], under)
		for _, y := range next {
			if s := textOf(y); seen[s] == 0 {
				seen[s] = 1
				l = append(l, y)
			}
		}
	}
	return len(l) >= 3000
}

func TestN2EtaIsThatOfNames(t *testing.T) {
	d := sample.Die(41)
	changed := 0
	for range 20000 {
		x, under := drawn(&d, 6)
		x = idle(&d, x)
		if sample.LamCount(x) > api.MaxNodes {
			continue
		}
		n, outside := named(x, under)
		for ok := true; ok; {
			n, ok = plainEta(n)
		}
		want := sample.WithoutNames(n, outside)
		got, e := Eta(x, under)
		if textOf(got) != textOf(want) || e != api.OK {
			t.Fatalf("Eta of %s: %s, error %d, want %s", textOf(x), textOf(got), e, textOf(want))
		}
		if textOf(got) != textOf(x) {
			changed++
		}
	}
	if changed < 3000 {
		t.Errorf("only %d had something to do", changed)
	}
}

// idle puts binders that do nothing around some parts of x.
func idle(d *sample.Die, x api.Lam) api.Lam {
	out := api.Lam{Kind: x.Kind, Index: x.Index}
	for _, s := range x.Subs {
		out.Subs = append(out.Subs, idle(d, s))
	}
	if d.Roll(8) == 0 {
		return binder(applied(lifted(out, 0), bound(0)))
	}
	return out
}

// lifted is x under one binder more.
func lifted(x api.Lam, deep int) api.Lam {
	if x.Kind == api.Bound && x.Index >= deep {
		return bound(x.Index + 1)
	}
	out := api.Lam{Kind: x.Kind, Index: x.Index}
	for _, s := range x.Subs {
		if x.Kind == api.Lambda {
			out.Subs = append(out.Subs, lifted(s, deep+1))
		} else {
			out.Subs = append(out.Subs, lifted(s, deep))
		}
	}
	return out
}
