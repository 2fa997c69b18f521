package binders

import (
	"iter"
	"slices"

	"metaprune/api"
)

// Outer is all that t becomes by one step, knot by knot; false beside one that would
// have far too many knots. Where no step is done it is t's own memory.
func Outer(t api.Lam) iter.Seq2[api.Lam, bool] {
	return func(yield func(api.Lam, bool) bool) { outer(t, yield) }
}

// Inner is likewise all that t becomes, but each knot behind those below it: the
// first step is one at the first knot below which there is none.
func Inner(t api.Lam) iter.Seq2[api.Lam, bool] {
	return func(yield func(api.Lam, bool) bool) { inner(t, yield) }
}

func outer(t api.Lam, yield func(api.Lam, bool) bool) bool {
	return here(t, yield) && below(t, outer, yield)
}

func inner(t api.Lam, yield func(api.Lam, bool) bool) bool {
	return below(t, inner, yield) && here(t, yield)
}

// walk tells all that t becomes by one step, till yield says no; so does it then.
type walk func(t api.Lam, yield func(api.Lam, bool) bool) bool

func here(t api.Lam, yield func(api.Lam, bool) bool) bool {
	if t.Kind != api.Apply || t.Subs[0].Kind != api.Lambda {
		return true
	}
	return yield(Put(t.Subs[0].Subs[0], t.Subs[1], api.MaxGrown))
}

func below(t api.Lam, each walk, yield func(api.Lam, bool) bool) bool {
	for i, s := range t.Subs {
		more := each(s, func(x api.Lam, ok bool) bool {
			out := api.Lam{Kind: t.Kind, Index: t.Index, Subs: slices.Clone(t.Subs)}
			out.Subs[i] = x
			return yield(out, ok)
		})
		if !more {
			return false
		}
	}
	return true
}

// Run does the first of the steps, again and again, till there is none: what t
// becomes, and by how many.
func Run(t api.Lam, steps func(api.Lam) iter.Seq2[api.Lam, bool], most int) (api.Lam, int, api.Errno) {
	for done := 0; ; done++ {
		x, ok, found := first(steps(t))
		if !found {
			return Copy(t), done, api.OK
		}
		if done == most {
			return api.Lam{}, 0, api.ErrFuel
		}
		if !ok || Count(x, api.MaxGrown) > api.MaxGrown {
			return api.Lam{}, 0, api.ErrFull
		}
		t = x
	}
}

func first(steps iter.Seq2[api.Lam, bool]) (x api.Lam, ok, found bool) {
	for x, ok := range steps {
		return x, ok, true
	}
	return api.Lam{}, false, false
}
