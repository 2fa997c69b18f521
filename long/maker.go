package long

import (
	"metaprune/api"
	"metaprune/binders"
)

// maker: how many knots may still be made.
type maker struct{ left int }

// longForm is that of a closed term in which there is nothing to work out, of a type
// that it has; false: it would have more than MaxGrown knots.
func longForm(t api.Lam, ty api.Type) (api.Lam, bool) {
	m := maker{left: api.MaxGrown}
	out := m.long(t, ty, nil)
	if m.left < 0 {
		return api.Lam{}, false
	}
	return out, true
}

// long is the long form of t, of a type, if those are the types of what the binders
// around it bind, the nearest one's last. Behind the first knot too many nothing is
// made any more, since nothing of it will be told.
func (m *maker) long(t api.Lam, ty api.Type, around []api.Type) api.Lam {
	if m.left < 0 {
		return api.Lam{}
	}
	if len(ty.Subs) == 0 {
		out, _ := m.row(t, around)
		return out
	}
	m.left--
	// No room beyond: so no two second Subs of a row lay a binder's type into the same
	// memory, behind those around both.
	inside := append(around[:len(around):len(around)], ty.Subs[0])
	return binder(m.long(body(t), ty.Subs[1], inside))
}

// row is what stands at the front of Applies, with the long forms of what it is applied
// to; and its type.
func (m *maker) row(t api.Lam, around []api.Type) (api.Lam, api.Type) {
	m.left--
	if t.Kind == api.Bound {
		return bound(t.Index), around[len(around)-1-t.Index]
	}
	f, ty := m.row(t.Subs[0], around)
	return applied(f, m.long(t.Subs[1], ty.Subs[0], around)), ty.Subs[1]
}

// body is a binder's Sub; of another term, what it does if a binder is laid around it.
func body(t api.Lam) api.Lam {
	if t.Kind == api.Lambda {
		return t.Subs[0]
	}
	return applied(binders.Raise(t, 1), bound(0))
}

func bound(index int) api.Lam { return api.Lam{Kind: api.Bound, Index: index} }

func binder(body api.Lam) api.Lam { return api.Lam{Kind: api.Lambda, Subs: []api.Lam{body}} }

func applied(f, x api.Lam) api.Lam { return api.Lam{Kind: api.Apply, Subs: []api.Lam{f, x}} }
