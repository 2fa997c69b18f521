// Package steps: steps by rules, done to terms that were asked already whether they
// may be (as the rules were). Pairs and equations that came out of rules are worked
// out, too: so how many knots a term has isn't asked ahead of the first step.
package steps

import (
	"iter"

	"metaprune/api"
	"metaprune/knots"
)

// fit: a rule's right side, and what stands for its variables.
type fit struct {
	right  api.Term
	stands map[string]api.Term
}

func (f fit) look(name string) (api.Term, bool) {
	x, ok := f.stands[name]
	return x, ok
}

// fits are those of the rules that fit the whole of t.
func fits(rules []api.Pair, t api.Term) iter.Seq[fit] {
	return func(yield func(fit) bool) {
		for _, r := range rules {
			stands, ok := knots.Fit(r.Left, t)
			if ok && !yield(fit{r.Right, stands}) {
				return
			}
		}
	}
}

// chance: a step that could be done: the place, the term there, and by what.
type chance struct {
	place []int
	was   api.Term
	fit
}

// chances are all steps that could be done: place by place, rule by rule. The
// memory of a chance's place is used again for the next one.
func chances(rules []api.Pair, places iter.Seq2[[]int, api.Term]) iter.Seq[chance] {
	return func(yield func(chance) bool) {
		for place, x := range places {
			for f := range fits(rules, x) {
				if !yield(chance{place, x, f}) {
					return
				}
			}
		}
	}
}

// take does the step in t. What comes out is t's own memory but where the step
// was done; ErrFull: it would be too great.
func (c chance) take(t api.Term) (api.Term, api.Errno) {
	stay := knots.Count(t, api.MaxGrown) - knots.Count(c.was, api.MaxGrown)
	x, ok := knots.Fill(c.right, api.MaxGrown-stay, c.look)
	if !ok {
		return api.Term{}, api.ErrFull
	}
	return knots.Put(t, c.place, x), api.OK
}

// All are what t becomes by one step: place by place, rule by rule; they share
// memory with it. ErrFull: one would be too great.
func All(rules []api.Pair, t api.Term) ([]api.Term, api.Errno) {
	var out []api.Term
	for c := range chances(rules, knots.Down(t, nil)) {
		x, e := c.take(t)
		if e != api.OK {
			return nil, e
		}
		out = append(out, x)
	}
	return out, api.OK
}

// Outer is what t becomes by outermost steps at last, and how many. What stands to
// the left of a step is as it was, and nothing fitted there: so it isn't gone
// through again.
func Outer(rules []api.Pair, t api.Term, most int) (api.Term, int, api.Errno) {
	var from []int
	for done := 0; ; done++ {
		c, ok := first(chances(rules, knots.Down(t, from)))
		if !ok {
			return knots.Copy(t), done, api.OK
		}
		if done == most {
			return api.Term{}, 0, api.ErrFuel
		}
		x, e := c.take(t)
		if e != api.OK {
			return api.Term{}, 0, e
		}
		t, from = x, c.place
	}
}

func first[T any](l iter.Seq[T]) (x T, ok bool) {
	for x := range l {
		return x, true
	}
	return x, false
}
