package term

import (
	"slices"

	"metaprune/api"
	"metaprune/knots"
)

// Places are all places of a term: each ahead of those below it, from the left on.
func Places(t api.Term) ([][]int, api.Errno) {
	if e := Check(t); e != api.OK {
		return nil, e
	}
	var all [][]int
	for place := range knots.Down(t, nil) {
		all = append(all, slices.Clone(place))
	}
	return all, api.OK
}

// At is what stands at a place.
func At(t api.Term, place []int) (api.Term, api.Errno) {
	if e := Check(t); e != api.OK {
		return api.Term{}, e
	}
	x, ok := find(t, place)
	if !ok {
		return api.Term{}, api.ErrPlace
	}
	return knots.Copy(x), api.OK
}

// Put is a term with another one at a place.
func Put(t api.Term, place []int, x api.Term) (api.Term, api.Errno) {
	if e := Check(t); e != api.OK {
		return api.Term{}, e
	}
	if e := Check(x); e != api.OK {
		return api.Term{}, e
	}
	if _, ok := find(t, place); !ok {
		return api.Term{}, api.ErrPlace
	}
	return knots.Copy(knots.Put(t, place, x)), api.OK
}

// find is the term at a place, in t's own memory; false: there is no such place.
func find(t api.Term, place []int) (api.Term, bool) {
	for _, i := range place {
		if i < 0 || i >= len(t.Args) {
			return api.Term{}, false
		}
		t = t.Args[i]
	}
	return t, true
}
