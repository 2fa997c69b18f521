package sample

import "metaprune/api"

// Closed is a closed lambda term that has a type by the way in which it is made, and
// that; it may be given.
func (d *Die) Closed(deep int) (api.Lam, api.Type) {
	for {
		ty := d.Type(3, 2)
		if l := inhabited(); d.Roll(3) > 0 {
			ty = l[d.Roll(len(l))]
		}
		if t, ok := d.Typed(ty, nil, deep); ok && LamCount(t) <= api.MaxNodes {
			return t, ty
		}
	}
}

// inhabited are types that have many terms.
func inhabited() []api.Type {
	a, b := Base(0), Base(1)
	f, g, both := Arrow(a, a), Arrow(a, b), Arrows(a, a, a)
	return []api.Type{
		Arrows(a, f, a),
		Arrows(a, both, a),
		Arrows(a, both, f, a),
		Arrows(b, g, Arrow(b, a), a),
		Arrows(a, Arrow(f, a), both, a),
		Arrows(a, Arrow(f, f), f, a),
		Arrows(a, Arrows(a, g, b), b, both, a),
	}
}

// Typed is a lambda term that has a type by the way in which it is made, if those are
// the types of what the binders around it bind, the nearest one's last; with at most so
// many Applies and binders above each of its leaves. False: none was found.
func (d *Die) Typed(ty api.Type, around []api.Type, deep int) (api.Lam, bool) {
	if deep < 0 {
		return api.Lam{}, false
	}
	if len(around) > 0 && d.Roll(3) == 0 {
		if t, ok := d.typedApply(ty, around, deep-1); ok {
			return t, true
		}
	}
	if len(ty.Subs) == 0 || d.Roll(3) == 0 {
		if t, ok := d.typedRow(ty, around, deep-1); ok || len(ty.Subs) == 0 {
			return t, ok
		}
	}
	inside := append(around[:len(around):len(around)], ty.Subs[0])
	t, ok := d.Typed(ty.Subs[1], inside, deep-1)
	return Binder(t), ok
}

// typedApply is a term, applied to another one, of a type that something bound has.
func (d *Die) typedApply(ty api.Type, around []api.Type, deep int) (api.Lam, bool) {
	from := around[d.Roll(len(around))]
	f, ok := d.Typed(Arrow(from, ty), around, deep)
	if !ok {
		return api.Lam{}, false
	}
	return d.typedOn(f, []api.Type{from}, around, deep)
}

// typedOn is a term, applied to others of these types.
func (d *Die) typedOn(t api.Lam, l []api.Type, around []api.Type, deep int) (api.Lam, bool) {
	for _, ty := range l {
		x, ok := d.Typed(ty, around, deep)
		if !ok {
			return api.Lam{}, false
		}
		t = Applied(t, x)
	}
	return t, true
}

// typedRow is something bound, applied to as many as it needs to have the type.
func (d *Die) typedRow(ty api.Type, around []api.Type, deep int) (api.Lam, bool) {
	first := d.Roll(len(around) + 1)
	for i := range around {
		index := (first + i) % len(around)
		l, ok := asked(around[len(around)-1-index], ty)
		if !ok {
			continue
		}
		if t, ok := d.typedOn(Bound(index), l, around, deep); ok {
			return t, true
		}
	}
	return api.Lam{}, false
}

// asked are the types of what a thing of one type must be applied to, so that it has
// another one.
func asked(from, to api.Type) ([]api.Type, bool) {
	var l []api.Type
	for TypeText(from) != TypeText(to) {
		if len(from.Subs) == 0 {
			return nil, false
		}
		l = append(l, from.Subs[0])
		from = from.Subs[1]
	}
	return l, true
}
