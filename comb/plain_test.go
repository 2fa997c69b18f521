package comb

import (
	"strings"
	"testing"

	"metaprune/api"
	"metaprune/reduce"
	"metaprune/rewrite"
	"metaprune/sample"
)

// applied is a term, applied to others, one behind the other.
func applied(f api.Term, l ...api.Term) api.Term {
	for _, x := range l {
		f = knot("ap", f, x)
	}
	return f
}

// holds: does a name stand in a term?
func holds(name string, t api.Term) bool {
	if t.Name == name {
		return true
	}
	for _, a := range t.Args {
		if holds(name, a) {
			return true
		}
	}
	return false
}

// plainBracket does word by word what the promise says.
func plainBracket(v string, t api.Term) api.Term {
	if !holds(v, t) {
		return applied(knot("k"), t)
	}
	if t.Name == v {
		return knot("i")
	}
	f, x := t.Args[0], t.Args[1]
	if x.Name == v && !holds(v, f) {
		return f
	}
	return applied(knot("s"), plainBracket(v, f), plainBracket(v, x))
}

// plainFrom takes a term with names, which no two binders share; what some knot comes
// to, and how great the greatest of these is.
func plainFrom(n sample.Named, greatest *int) api.Term {
	var out api.Term
	switch len(n.Subs) {
	case 0:
		out = knot(strings.ToUpper(n.Name))
		if number, ok := strings.CutPrefix(n.Name, "#4"); ok {
			out = knot("c" + number)
		}
	case 1:
		out = plainBracket(strings.ToUpper(n.Name), plainFrom(n.Subs[0], greatest))
	case 2:
		f := plainFrom(n.Subs[0], greatest)
		out = applied(f, plainFrom(n.Subs[1], greatest))
	}
	*greatest = max(*greatest, sample.Count(out))
	return out
}

func plainFromLam(t api.Lam) (api.Term, api.Errno) {
	count, greatest := 0, 0
	out := plainFrom(sample.WithNames(t, nil, &count), &greatest)
	if greatest > api.MaxGrown {
		return api.Term{}, api.ErrFull
	}
	return out, api.OK
}

// rules are what the symbols do, told as rules. The first place that one of these fits
// is within the first row that has something at its front to work out.
func rules(t *testing.T) []api.Pair {
	return []api.Pair{
		{Left: parsed(t, "ap(i,X)"), Right: parsed(t, "X")},
		{Left: parsed(t, "ap(ap(k,X),Y)"), Right: parsed(t, "X")},
		{Left: parsed(t, "ap(ap(ap(s,X),Y),Z)"), Right: parsed(t, "ap(ap(X,Z),ap(Y,Z))")},
	}
}

// drawn is a term of such leaves.
func drawn(d *sample.Die, deep int, leaves ...string) api.Term {
	if deep == 0 || d.Roll(6) == 0 {
		return knot(leaves[d.Roll(len(leaves))])
	}
	f := drawn(d, deep-1, leaves...)
	return applied(f, drawn(d, deep-1, leaves...))
}

func drawnLam(d *sample.Die, deep int) api.Lam {
	for {
		if t := d.Lam(deep, 0, 2); sample.LamCount(t) <= api.MaxNodes {
			return t
		}
	}
}

// drawnDeep is one that may grow: much of it is bound from far outside.
func drawnDeep(d *sample.Die) api.Lam {
	around := 8 + d.Roll(12)
	body := d.Lam(3, around, 1)
	for range d.Roll(12) {
		body = sample.Applied(body, d.Lam(1, around, 1))
	}
	return sample.Binders(around, body)
}

func TestO1BracketIsThePlainOne(t *testing.T) {
	d := sample.Die(3)
	for range 4000 {
		x := drawn(&d, 1+d.Roll(6), "X", "Y", "s", "k", "i", "a", "ap")
		v := []string{"X", "Y", "Z"}[d.Roll(3)]
		if got, e := Bracket(v, x); textOf(got) != textOf(plainBracket(v, x)) || e != api.OK {
			t.Fatalf("Bracket of %s, %s: %s, error %d", v, textOf(x), textOf(got), e)
		}
	}
}

// A term without a variable, applied to a thing, does what the term does with that
// for the variable.
func TestO1BracketDoesTheSame(t *testing.T) {
	d := sample.Die(5)
	ended := 0
	for range 4000 {
		x, y := drawn(&d, 3, "X", "X", "s", "k", "i", "a"), drawn(&d, 2, "s", "k", "i", "b")
		f, _ := Bracket("X", x)
		want, _, e := Run(put(x, "X", y), api.MaxFuel)
		got, _, g := Run(applied(f, y), api.MaxFuel)
		if e != api.OK || g != api.OK {
			continue
		}
		ended++
		if textOf(got) != textOf(want) {
			t.Fatalf("Bracket of %s: %s: applied to %s it comes to %s, want %s", textOf(x), textOf(f), textOf(y), textOf(got), textOf(want))
		}
	}
	if ended < 2000 {
		t.Errorf("only %d came to an end", ended)
	}
}

func put(t api.Term, v string, x api.Term) api.Term {
	if t.Name == v {
		return x
	}
	out := knot(t.Name)
	for _, a := range t.Args {
		out.Args = append(out.Args, put(a, v, x))
	}
	return out
}

func TestO2FromIsThePlainOne(t *testing.T) {
	d := sample.Die(7)
	count := map[api.Errno]int{}
	for range 4000 {
		x := drawnLam(&d, 2+d.Roll(8))
		if d.Roll(4) == 0 {
			x = drawnDeep(&d)
		}
		want, e := plainFromLam(x)
		got, f := From(x)
		if textOf(got) != textOf(want) || e != f {
			t.Fatalf("From of %s: %s, error %d, want %s, error %d", sample.LamText(x), textOf(got), f, textOf(want), e)
		}
		count[e]++
	}
	if count[api.OK] < 2000 || count[api.ErrFull] < 20 {
		t.Errorf("drawn: %v", count)
	}
}

// end is what a lambda term comes to, if it does so soon.
func end(t api.Lam) (string, bool) {
	x, _, e := reduce.Normal(t, 0, api.MaxFuel)
	if e != api.OK || sample.LamCount(x) > api.MaxNodes {
		return "", false
	}
	x, e = reduce.Eta(x, 0)
	return sample.LamText(x), e == api.OK
}

// Without what is bound a term does the same.
func TestO2FromAndToDoTheSame(t *testing.T) {
	d := sample.Die(11)
	ended := 0
	for range 4000 {
		x := drawnLam(&d, 2+d.Roll(3))
		y, e := From(x)
		if e != api.OK || sample.Count(y) > api.MaxNodes {
			continue
		}
		z, e := To(y)
		if e != api.OK {
			t.Fatalf("To of %s: error %d", textOf(y), e)
		}
		if sample.LamCount(z) > api.MaxNodes {
			continue
		}
		want, ok := end(x)
		got, too := end(z)
		if !ok || !too {
			continue
		}
		ended++
		if got != want {
			t.Fatalf("From of %s: %s: it comes to %s, want %s", sample.LamText(x), textOf(y), got, want)
		}
	}
	if ended < 2000 {
		t.Errorf("only %d came to an end", ended)
	}
}

func TestO3RunIsThatOfRules(t *testing.T) {
	d := sample.Die(13)
	count := map[api.Errno]int{}
	for i := range 4000 {
		x := drawn(&d, 2+d.Roll(5), "s", "s", "k", "i", "a", "X")
		most := d.Roll(30)
		if i%4 == 0 {
			x, most = applied(drawn(&d, 3, "s", "s", "s", "i", "a"), drawn(&d, 3, "s", "i")), api.MaxFuel
		}
		want, n, e := rewrite.Outer(rules(t), x, most)
		got, m, f := Run(x, most)
		if textOf(got) != textOf(want) || n != m || e != f {
			t.Fatalf("Run of %s, at most %d: %s, %d, error %d, want %s, %d, error %d",
				textOf(x), most, textOf(got), m, f, textOf(want), n, e)
		}
		if e == api.OK && n == 0 {
			e = -1
		}
		count[e]++
	}
	for _, e := range []api.Errno{api.OK, -1, api.ErrFuel, api.ErrFull} {
		if count[e] < 20 {
			t.Errorf("error %d: only %d drawn", e, count[e])
		}
	}
}
