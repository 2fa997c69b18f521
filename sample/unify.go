package sample

import (
	"slices"
	"strings"

	"metaprune/api"
)

// Unify does word by word what promise D1 says of equations, as slow as that may be;
// of any number of them, of any number of knots.
func Unify(l []api.Pair) ([]api.Bind, api.Errno) {
	var s []api.Bind
	todo := slices.Clone(l)
	for len(todo) > 0 {
		a, b := WithAll(todo[0].Left, s), WithAll(todo[0].Right, s)
		todo = todo[1:]
		if Count(a) > api.MaxGrown || Count(b) > api.MaxGrown {
			return nil, api.ErrFull
		}
		switch {
		case isVariable(a) && a.Name == b.Name:
			continue
		case isVariable(b) && !isVariable(a):
			a, b = b, a
		case isVariable(a):
		case a.Name != b.Name || len(a.Args) != len(b.Args):
			return nil, api.ErrClash
		default:
			todo = append(equal(a.Args, b.Args), todo...)
			continue
		}
		one := []api.Bind{{Name: a.Name, Term: b}}
		if Text(WithAll(b, one)) != Text(b) {
			return nil, api.ErrOccurs
		}
		for i := range s {
			s[i].Term = WithAll(s[i].Term, one)
			if Count(s[i].Term) > api.MaxGrown {
				return nil, api.ErrFull
			}
		}
		s = append(s, one...)
		slices.SortFunc(s, func(x, y api.Bind) int { return strings.Compare(x.Name, y.Name) })
	}
	return s, api.OK
}

func isVariable(t api.Term) bool { return t.Name[0] < 'a' }

// equal are the equations of terms, one by one.
func equal(left, right []api.Term) []api.Pair {
	var l []api.Pair
	for i := range left {
		l = append(l, api.Pair{Left: left[i], Right: right[i]})
	}
	return l
}

// WithAll is t with what stands for its variables.
func WithAll(t api.Term, s []api.Bind) api.Term {
	for _, b := range s {
		if t.Name == b.Name {
			return b.Term
		}
	}
	out := Knot(t.Name)
	for _, a := range t.Args {
		out.Args = append(out.Args, WithAll(a, s))
	}
	return out
}
