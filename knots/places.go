package knots

import (
	"iter"
	"slices"

	"metaprune/api"
	"metaprune/trees"
)

// Down goes through all knots, each ahead of those below it, from the left on:
// the place, and the term there. But it leaves out what stands to the left of
// the way to the place from. The memory of a place is used again for the next
// one: who keeps it copies it.
func Down(t api.Term, from []int) iter.Seq2[[]int, api.Term] {
	return func(yield func([]int, api.Term) bool) { down(t, nil, from, yield) }
}

func down(t api.Term, here, from []int, yield func([]int, api.Term) bool) bool {
	if !yield(here, t) {
		return false
	}
	first, rest := next(from)
	for i := first; i < len(t.Args); i++ {
		if !down(t.Args[i], append(here, i), rest, yield) {
			return false
		}
		rest = nil
	}
	return true
}

// next parts the way to a place: which of those below, and the way from there on.
func next(way []int) (first int, rest []int) {
	if len(way) == 0 {
		return 0, nil
	}
	return way[0], way[1:]
}

// Put is t with x at a place that it has. Only the knots on the way there are
// made anew: the rest is t's own memory, and x's.
func Put(t api.Term, place []int, x api.Term) api.Term {
	if len(place) == 0 {
		return x
	}
	out := api.Term{Name: t.Name, Args: slices.Clone(t.Args)}
	i := place[0]
	out.Args[i] = Put(t.Args[i], place[1:], x)
	return out
}

// Count is how many knots a term has; it stops at the first one that is more than
// most.
func Count(t api.Term, most int) int { return trees.Count(t, argsOf, most) }

func argsOf(t api.Term) []api.Term { return t.Args }
