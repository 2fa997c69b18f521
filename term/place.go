package term

import (
	"slices"

	"metaprune/api"
	"metaprune/knots"
)

// Places are all places of a term: each ahead of those below it, from the left on.
func Places(t api.Term) ([][]int, api.Errno) {
	if e := Check(t); e != api.OK {
		return nil, e
	}
	return addPlaces(nil, t, nil), api.OK
}

// addPlaces puts the places of t behind all, t standing at the place here. The
// memory behind here is used again from place to place: so copies of it are put.
func addPlaces(all [][]int, t api.Term, here []int) [][]int {
	all = append(all, slices.Clone(here))
	for i, a := range t.Args {
		all = addPlaces(all, a, append(here, i))
	}
	return all
}

// At is what stands at a place.
func At(t api.Term, place []int) (api.Term, api.Errno) {
	if e := Check(t); e != api.OK {
		return api.Term{}, e
	}
	x, ok := find(t, place)
	if !ok {
		return api.Term{}, api.ErrPlace
	}
	return knots.Copy(x), api.OK
}

// Put is a term with another one at a place.
func Put(t api.Term, place []int, x api.Term) (api.Term, api.Errno) {
	if e := Check(t); e != api.OK {
		return api.Term{}, e
	}
	if e := Check(x); e != api.OK {
		return api.Term{}, e
	}
	if _, ok := find(t, place); !ok {
		return api.Term{}, api.ErrPlace
	}
	return replace(t, place, x), api.OK
}

// find is the term at a place, in t's own memory; false: there is no such place.
func find(t api.Term, place []int) (api.Term, bool) {
	for _, i := range place {
		if i < 0 || i >= len(t.Args) {
			return api.Term{}, false
		}
		t = t.Args[i]
	}
	return t, true
}

// replace is a copy of t with a copy of x at a place that t has.
func replace(t api.Term, place []int, x api.Term) api.Term {
	if len(place) == 0 {
		return knots.Copy(x)
	}
	out := api.Term{Name: t.Name, Args: make([]api.Term, len(t.Args))}
	for i, a := range t.Args {
		if i == place[0] {
			out.Args[i] = replace(a, place[1:], x)
		} else {
			out.Args[i] = knots.Copy(a)
		}
	}
	return out
}
