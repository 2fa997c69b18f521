package complete

import (
	"slices"
	"strconv"
	"testing"

	"metaprune/api"
	"metaprune/critical"
	"metaprune/order"
	"metaprune/rewrite"
	"metaprune/sample"
)

// named is a rule with its variables named as they come.
func named(left, right api.Term) api.Pair {
	var names []string
	var each func(x api.Term) api.Term
	each = func(x api.Term) api.Term {
		if x.Name[0] < 'a' {
			if !slices.Contains(names, x.Name) {
				names = append(names, x.Name)
			}
			return knot("Z" + strconv.Itoa(1+slices.Index(names, x.Name)))
		}
		out := knot(x.Name)
		for _, a := range x.Args {
			out.Args = append(out.Args, each(a))
		}
		return out
	}
	l := each(left)
	return eq(l, each(right))
}

// plain: I1 and I2, word by word, by the faces of the layers alone: so terms of more
// than MaxNodes knots are too great for it, as are pairs of more than MaxGrown.
type plain struct {
	row         []string
	rules, todo []api.Pair
	great       bool
}

func (p *plain) above(a, b api.Term) bool {
	ok, e := order.Path(p.row, a, b)
	p.great = p.great || e == api.ErrLimit
	return ok
}

func (p *plain) pairs(rules ...api.Pair) []api.Pair {
	l, e := critical.Pairs(rules)
	p.great = p.great || e == api.ErrFull
	return l
}

func (p *plain) all(rounds int) ([]api.Pair, api.Errno) {
	for n := 0; len(p.todo) > 0; n++ {
		if n == rounds {
			return nil, api.ErrFuel
		}
		first := p.todo[0]
		p.todo = p.todo[1:]
		p.great = p.great || sample.Count(first.Left) > api.MaxNodes || sample.Count(first.Right) > api.MaxNodes
		if p.great {
			return nil, api.OK
		}
		a, _, e := rewrite.Inner(p.rules, first.Left, 100)
		if e != api.OK {
			return nil, e
		}
		b, _, e := rewrite.Inner(p.rules, first.Right, 100)
		if e != api.OK {
			return nil, e
		}
		if textOf(a) == textOf(b) {
			continue
		}
		if !p.above(a, b) {
			a, b = b, a
		}
		if !p.above(a, b) {
			return nil, api.ErrOrder
		}
		if e := p.add(named(a, b)); e != api.OK {
			return nil, e
		}
	}
	return p.rules, api.OK
}

func (p *plain) add(made api.Pair) api.Errno {
	if sample.Count(made.Left) > api.MaxNodes || sample.Count(made.Right) > api.MaxNodes {
		return api.ErrFull
	}
	var stay []api.Pair
	for _, r := range p.rules {
		l, e := rewrite.Steps([]api.Pair{made}, r.Left)
		p.great = p.great || e == api.ErrFull
		if len(l) > 0 {
			p.todo = append(p.todo, r)
		} else {
			stay = append(stay, r)
		}
	}
	p.rules = append(stay, made)
	if len(p.rules) > api.MaxList {
		return api.ErrLimit
	}
	for i, r := range p.rules {
		x, _, e := rewrite.Inner(p.rules, r.Right, 100)
		if e != api.OK {
			return e
		}
		if sample.Count(x) > api.MaxNodes {
			return api.ErrFull
		}
		p.rules[i].Right = x
	}
	p.addPairs()
	if len(p.todo) > 400 {
		return api.ErrLimit
	}
	return api.OK
}

// addPairs: of two rules critical.Pairs tells those of the first with itself, of the
// first outside, of the second outside, of the second with itself.
func (p *plain) addPairs() {
	last := p.rules[len(p.rules)-1]
	own := p.pairs(last)
	for _, r := range p.rules[:len(p.rules)-1] {
		first, l := len(p.pairs(r)), p.pairs(r, last)
		if p.great {
			return
		}
		p.todo = append(p.todo, l[first:len(l)-len(own)]...)
	}
	p.todo = append(p.todo, own...)
}

// drawnEqs are some equations; few have many variables, so that many are in order.
func drawnEqs(d *sample.Die) []api.Pair {
	leaves := [][]string{{"a", "b", "c"}, {"X", "a", "b"}, {"X", "X", "a"}, {"X", "Y", "a"}}[d.Roll(4)]
	var l []api.Pair
	for range 1 + d.Roll(4) {
		left := d.Term(1+d.Roll(3), leaves...)
		l = append(l, eq(left, d.Term(d.Roll(3), leaves...)))
	}
	return l
}

func drawnRow(d *sample.Die) []string {
	return [][]string{nil, {"a", "b", "k", "h", "g", "f"}, {"f", "g", "h", "k"}, {"h", "f"}}[d.Roll(4)]
}

func TestI1I2WordByWord(t *testing.T) {
	d := sample.Die(5)
	told := map[api.Errno]int{}
	several, great := 0, 0
	for range 4000 {
		row, eqs, rounds := drawnRow(&d), drawnEqs(&d), d.Roll(20)
		l, e := Complete(row, eqs, rounds)
		p := plain{row: row, todo: slices.Clone(eqs)}
		want, f := p.all(rounds)
		if p.great {
			great++
			continue
		}
		if textOfRules(l) != textOfRules(want) || e != f {
			t.Fatalf("Complete of %v, %s, %d: %s, error %d, want %s, error %d", row, textOfRules(eqs), rounds, textOfRules(l), e, textOfRules(want), f)
		}
		told[e]++
		if len(l) > 1 {
			several++
		}
	}
	if told[api.OK] < 500 || told[api.ErrOrder] < 500 || told[api.ErrFuel] < 300 || several < 300 || great > 50 {
		t.Errorf("told just %v, several rules %d times, too great %d times", told, several, great)
	}
}

// isEnded: do the rules do no step to x?
func isEnded(t *testing.T, rules []api.Pair, x api.Term) bool {
	l, e := rewrite.Steps(rules, x)
	if e != api.OK {
		t.Fatalf("Steps: error %d", e)
	}
	return len(l) == 0
}

// The rules go down, make both sides of the equations the same, and of each term
// always the same; none does a step to another one.
func TestI2WhatTheRulesTell(t *testing.T) {
	d := sample.Die(6)
	for range 1500 {
		row, eqs := drawnRow(&d), drawnEqs(&d)
		rules, e := Complete(row, eqs, api.MaxRounds)
		if e != api.OK {
			continue
		}
		what := textOfRules(eqs) + ": " + textOfRules(rules)
		for _, p := range eqs {
			if ok, e := rewrite.Meet(rules, p.Left, p.Right, api.MaxFuel); !ok || e != api.OK {
				t.Fatalf("%s: %s and %s don't meet, error %d", what, textOf(p.Left), textOf(p.Right), e)
			}
		}
		if ok, e := critical.Join(rules, api.MaxFuel); !ok || e != api.OK {
			t.Fatalf("%s: pairs don't meet, error %d", what, e)
		}
		for i, r := range rules {
			others := slices.Delete(slices.Clone(rules), i, i+1)
			if !isEnded(t, rules, r.Right) || !isEnded(t, others, r.Left) {
				t.Fatalf("%s: rule %d is to be worked out", what, i)
			}
			if ok, e := order.Path(row, r.Left, r.Right); !ok || e != api.OK {
				t.Fatalf("%s: rule %d doesn't go down, error %d", what, i, e)
			}
		}
	}
}
