// Package overlaps: where two rules come into each other's way; of rules that were
// asked already whether they may be.
package overlaps

import (
	"strconv"

	"metaprune/api"
	"metaprune/knots"
	"metaprune/unify"
)

// Pairs are those of two rules, of which which tells the outer one, then the inner
// one: place by place of the outer Left. (With itself a rule has none at the whole:
// both terms of that would be the same.)
func Pairs(rules []api.Pair, which [2]int) ([]api.Pair, api.Errno) {
	both := apart([2]api.Pair{rules[which[0]], rules[which[1]]})
	var out []api.Pair
	for place, x := range knots.Down(both[0].Left, nil) {
		if len(place) == 0 && which[0] == which[1] || !isLike(x, both[1].Left) {
			continue
		}
		s, e := unify.Unify([]api.Pair{{Left: x, Right: both[1].Left}})
		if e == api.ErrFull {
			return nil, e
		}
		if e != api.OK {
			continue
		}
		p, e := pairAt(both, place, s)
		if e != api.OK {
			return nil, e
		}
		out = append(out, p)
	}
	return out, api.OK
}

// apart gives both rules variables of their own, even if they are one.
func apart(both [2]api.Pair) [2]api.Pair {
	named := knots.Namer()
	for i, r := range both {
		own := func(name string) string { return named(strconv.Itoa(i) + name) }
		both[i] = renamed(r, own)
	}
	return both
}

func renamed(r api.Pair, named func(name string) string) api.Pair {
	return api.Pair{Left: knots.Rename(r.Left, named), Right: knots.Rename(r.Right, named)}
}

// isLike tells most terms soon that can't become one with a symbol's: variables,
// which are left out, and such as have another symbol.
func isLike(x, left api.Term) bool { return x.Name == left.Name && len(x.Args) == len(left.Args) }

// pairAt is what a term becomes by the one rule, at the whole, and by the other
// one, at a place.
func pairAt(both [2]api.Pair, place []int, s []api.Bind) (api.Pair, api.Errno) {
	look := knots.Look(knots.ByName(s))
	whole, ok := knots.Fill(both[0].Right, api.MaxGrown, look)
	if !ok {
		return api.Pair{}, api.ErrFull
	}
	within, ok := knots.Fill(knots.Put(both[0].Left, place, both[1].Right), api.MaxGrown, look)
	if !ok {
		return api.Pair{}, api.ErrFull
	}
	return Named(api.Pair{Left: whole, Right: within}), api.OK
}

// Named is a pair whose variables are named Z1, Z2, .. as they come.
func Named(p api.Pair) api.Pair { return renamed(p, knots.Namer()) }
