package sample

import (
	"strconv"

	"metaprune/api"
)

// Bound is what the index-th binder around it binds.
func Bound(index int) api.Lam { return api.Lam{Kind: api.Bound, Index: index} }

// Const is a constant.
func Const(number int) api.Lam { return api.Lam{Kind: api.Const, Index: number} }

// Meta is an unknown.
func Meta(number int) api.Lam { return api.Lam{Kind: api.Meta, Index: number} }

// Binder is a binder of a body.
func Binder(body api.Lam) api.Lam { return api.Lam{Kind: api.Lambda, Subs: []api.Lam{body}} }

// Applied is a term, applied to others, one behind the other.
func Applied(f api.Lam, l ...api.Lam) api.Lam {
	for _, x := range l {
		f = api.Lam{Kind: api.Apply, Subs: []api.Lam{f, x}}
	}
	return f
}

// Binders is so many binders of a body, one in the other.
func Binders(many int, body api.Lam) api.Lam {
	for range many {
		body = Binder(body)
	}
	return body
}

// Row is a term, applied to itself, one behind the other: so many of it in all.
func Row(many int, x api.Lam) api.Lam {
	t := x
	for range many - 1 {
		t = Applied(t, x)
	}
	return t
}

// EndlessLam holds itself, at both places below it.
func EndlessLam() api.Lam {
	subs := make([]api.Lam, 2)
	t := api.Lam{Kind: api.Apply, Subs: subs}
	subs[0], subs[1] = t, t
	return t
}

// LamText of a lambda term, all in brackets: the tests' own, so that no call under
// test helps.
func LamText(t api.Lam) string {
	s := strconv.Itoa(t.Kind) + ":" + strconv.Itoa(t.Index)
	for _, x := range t.Subs {
		s += "(" + LamText(x) + ")"
	}
	return s
}

// LamCount is how many knots a lambda term has.
func LamCount(t api.Lam) int {
	n := 1
	for _, x := range t.Subs {
		n += LamCount(x)
	}
	return n
}

// IsNoLam: is it what stands beside an error?
func IsNoLam(t api.Lam) bool { return t.Kind == 0 && t.Index == 0 && len(t.Subs) == 0 }

// SpoilLam writes into all memory of a lambda term.
func SpoilLam(t api.Lam) {
	for i := range t.Subs {
		SpoilLam(t.Subs[i])
		t.Subs[i] = Const(99)
	}
}

// WrongLam: a lambda term that may not be, under no binder, and what is wrong with it.
type WrongLam struct {
	What  string
	Lam   api.Lam
	Errno api.Errno
}

// WrongLams are lambda terms that may not be: each way in which one is refused.
func WrongLams() []WrongLam {
	return []WrongLam{
		{"no kind", api.Lam{}, api.ErrForm},
		{"a binder of nothing", api.Lam{Kind: api.Lambda}, api.ErrForm},
		{"something bound by nothing", Bound(0), api.ErrOpen},
		{"something bound from outside", Binder(Applied(Bound(0), Bound(1))), api.ErrOpen},
		{"a constant of MaxList", Const(api.MaxList), api.ErrOpen},
		{"an unknown", Meta(0), api.ErrOpen},
		{"MaxNodes + 1 knots", Binders(api.MaxNodes, Const(0)), api.ErrLimit},
		{"a term that holds itself", EndlessLam(), api.ErrLimit},
	}
}

// Lam is a lambda term under so many binders, with at most so many knots above each
// of its leaves: of constants there are so many.
func (d *Die) Lam(deep, under, consts int) api.Lam {
	if deep == 0 || d.Roll(6) == 0 {
		n := d.Roll(under + consts)
		if n < under {
			return Bound(n)
		}
		return Const(n - under)
	}
	if d.Roll(2) == 0 {
		return Binder(d.Lam(deep-1, under+1, consts))
	}
	f := d.Lam(deep-1, under, consts)
	return Applied(f, d.Lam(deep-1, under, consts))
}
