package binders

import "metaprune/api"

// Eta is t, with each binder that does nothing but apply a term to what it binds
// become that term. Those within go first: what they leave shows no more such
// binders within, whatever becomes of those around them.
func Eta(t api.Lam) api.Lam {
	out := api.Lam{Kind: t.Kind, Index: t.Index}
	for _, s := range t.Subs {
		out.Subs = append(out.Subs, Eta(s))
	}
	if t.Kind == api.Lambda && isIdle(out.Subs[0]) {
		return Raise(out.Subs[0].Subs[0], -1)
	}
	return out
}

// isIdle: does a binder's Sub apply a term, in which what it binds doesn't stand,
// to what it binds?
func isIdle(t api.Lam) bool {
	if t.Kind != api.Apply || Holds(t.Subs[0], 0) {
		return false
	}
	x := t.Subs[1]
	return x.Kind == api.Bound && x.Index == 0
}
