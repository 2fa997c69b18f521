package binders

import (
	"math"

	"metaprune/api"
)

// Put is a body under one binder more with x for what that binds, in memory of its
// own; false: it would have more than most knots.
func Put(body, x api.Lam, most int) (api.Lam, bool) {
	m := maker{left: most}
	out := m.build(body, 0, func(index, deep int) api.Lam {
		if index == deep {
			return m.raise(x, deep)
		}
		return m.bound(index - 1)
	})
	if m.left < 0 {
		return api.Lam{}, false
	}
	return out, true
}

// Raise is a copy of t in which what is bound from outside is bound so many binders
// further out.
func Raise(t api.Lam, by int) api.Lam {
	m := maker{left: math.MaxInt}
	return m.raise(t, by)
}

// Copy is a lambda term in memory of its own, since what is handed out is the caller's.
func Copy(t api.Lam) api.Lam { return Raise(t, 0) }

// maker: how many knots may still be made.
type maker struct{ left int }

// build takes t, under so many binders of its own, as it is, but for what is bound
// from outside: what comes there is told by outside. Behind the first knot too many
// nothing is made any more, since nothing of it will be told.
func (m *maker) build(t api.Lam, deep int, outside func(index, deep int) api.Lam) api.Lam {
	if t.Kind == api.Bound && t.Index >= deep {
		return outside(t.Index, deep)
	}
	m.left--
	out := api.Lam{Kind: t.Kind, Index: t.Index}
	if t.Kind == api.Lambda {
		deep++
	}
	for _, s := range t.Subs {
		if m.left < 0 {
			break
		}
		out.Subs = append(out.Subs, m.build(s, deep, outside))
	}
	return out
}

func (m *maker) raise(t api.Lam, by int) api.Lam {
	return m.build(t, 0, func(index, _ int) api.Lam { return m.bound(index + by) })
}

func (m *maker) bound(index int) api.Lam {
	m.left--
	return api.Lam{Kind: api.Bound, Index: index}
}
