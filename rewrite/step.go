package rewrite

import (
	"iter"

	"metaprune/api"
	"metaprune/knots"
	"metaprune/term"
)

// chance: a step that could be done: the place, the term there, the rule's right
// side, and what stands for its variables.
type chance struct {
	place  []int
	was    api.Term
	right  api.Term
	stands map[string]api.Term
}

// chances are all steps that could be done: place by place, rule by rule. The
// memory of a chance's place is used again for the next one.
func chances(rules []api.Pair, places iter.Seq2[[]int, api.Term]) iter.Seq[chance] {
	return func(yield func(chance) bool) {
		for place, x := range places {
			for _, r := range rules {
				stands, ok := knots.Fit(r.Left, x)
				if ok && !yield(chance{place, x, r.Right, stands}) {
					return
				}
			}
		}
	}
}

// take does the step in t. What comes out is t's own memory but where the step
// was done; ErrFull: it would be too great.
func (c chance) take(t api.Term) (api.Term, api.Errno) {
	stay := knots.Count(t, api.MaxGrown) - knots.Count(c.was, api.MaxGrown)
	x, ok := knots.Fill(c.right, api.MaxGrown-stay, c.look)
	if !ok {
		return api.Term{}, api.ErrFull
	}
	return knots.Put(t, c.place, x), api.OK
}

func (c chance) look(name string) (api.Term, bool) {
	x, ok := c.stands[name]
	return x, ok
}

// steps are what Steps says of a term, the rules being such as may be; but they
// share memory with it.
func steps(rules []api.Pair, t api.Term) ([]api.Term, api.Errno) {
	if e := term.Check(t); e != api.OK {
		return nil, e
	}
	var out []api.Term
	for c := range chances(rules, knots.Down(t, nil)) {
		x, e := c.take(t)
		if e != api.OK {
			return nil, e
		}
		out = append(out, x)
	}
	return out, api.OK
}

// through: an order in which places are gone through, as knots.Down or knots.Up.
type through func(t api.Term, from []int) iter.Seq2[[]int, api.Term]

// work does the first step, as places are gone through, again and again: what
// comes of t at last, in memory of its own, and how many steps that took. What
// stands to the left of a step is as it was, and nothing fitted there: so it
// isn't gone through again.
func work(rules []api.Pair, t api.Term, most int, places through) (api.Term, int, api.Errno) {
	var from []int
	for done := 0; ; done++ {
		c, ok := first(chances(rules, places(t, from)))
		if !ok {
			return knots.Copy(t), done, api.OK
		}
		if done == most {
			return api.Term{}, 0, api.ErrFuel
		}
		x, e := c.take(t)
		if e != api.OK {
			return api.Term{}, 0, e
		}
		t, from = x, c.place
	}
}

func first(l iter.Seq[chance]) (chance, bool) {
	for c := range l {
		return c, true
	}
	return chance{}, false
}
