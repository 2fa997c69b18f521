// Package binders: what several layers do with lambda terms that were asked already
// whether they may be. Such terms may have more knots than one that is given, and
// unknowns: so nothing here asks for these, but where it says so.
package binders

import (
	"metaprune/api"
	"metaprune/trees"
)

// Check says whether a lambda term may be, under so many binders, if so many
// unknowns may stand in it.
func Check(t api.Lam, under, metas int) api.Errno {
	if under < 0 || under > api.MaxList {
		return api.ErrPlace
	}
	if Count(t, api.MaxNodes) > api.MaxNodes {
		return api.ErrLimit
	}
	return checkKnots(t, under, metas)
}

func checkKnots(t api.Lam, around, metas int) api.Errno {
	if e := checkKnot(t, around, metas); e != api.OK {
		return e
	}
	if t.Kind == api.Lambda {
		around++
	}
	for _, s := range t.Subs {
		if e := checkKnots(s, around, metas); e != api.OK {
			return e
		}
	}
	return api.OK
}

func checkKnot(t api.Lam, around, metas int) api.Errno {
	subs, below := 0, 1
	switch t.Kind {
	case api.Bound:
		below = around
	case api.Lambda:
		subs = 1
	case api.Apply:
		subs = 2
	case api.Const:
		below = api.MaxList
	case api.Meta:
		below = metas
	default:
		return api.ErrForm
	}
	if len(t.Subs) != subs {
		return api.ErrForm
	}
	if t.Index < 0 || t.Index >= below {
		return api.ErrOpen
	}
	return api.OK
}

// Count is how many knots a lambda term has; it stops at the first one that is more
// than most.
func Count(t api.Lam, most int) int { return trees.Count(t, subsOf, most) }

func subsOf(t api.Lam) []api.Lam { return t.Subs }

// Same: are two lambda terms the same?
func Same(a, b api.Lam) bool { return trees.Same(a, b, subsOf, isAlike) }

func isAlike(a, b api.Lam) bool { return a.Kind == b.Kind && a.Index == b.Index }

// Holds: does what the index-th binder from outside binds stand in t?
func Holds(t api.Lam, index int) bool {
	if t.Kind == api.Bound {
		return t.Index == index
	}
	if t.Kind == api.Lambda {
		index++
	}
	for _, s := range t.Subs {
		if Holds(s, index) {
			return true
		}
	}
	return false
}
