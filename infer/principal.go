package infer

import (
	"strconv"

	"metaprune/api"
	"metaprune/equate"
	"metaprune/knots"
)

// asker: which equations must hold, so that a term has a type, as they come; and how
// many variables there are in them. Types are terms here: f(A,B) is the arrow.
type asker struct {
	equations []api.Pair
	variables int
}

func (a *asker) variable() api.Term {
	a.variables++
	return api.Term{Name: "V" + strconv.Itoa(a.variables)}
}

func arrow(from, to api.Term) api.Term { return api.Term{Name: "f", Args: []api.Term{from, to}} }

// typeOf is the type of t, if those are the types of what the binders around it bind,
// the nearest one's last.
func (a *asker) typeOf(t api.Lam, around []api.Term) api.Term {
	switch t.Kind {
	case api.Bound:
		return around[len(around)-1-t.Index]
	case api.Lambda:
		v := a.variable()
		// No room beyond: so no two Subs of an Apply lay a binder's type into the same
		// memory, behind those around both.
		inside := append(around[:len(around):len(around)], v)
		return arrow(v, a.typeOf(t.Subs[0], inside))
	}
	f := a.typeOf(t.Subs[0], around)
	x := a.typeOf(t.Subs[1], around)
	v := a.variable()
	a.equations = append(a.equations, api.Pair{Left: f, Right: arrow(x, v)})
	return v
}

// principal is the type of a closed term without constants.
func principal(t api.Lam) (api.Type, api.Errno) {
	var a asker
	whole := a.typeOf(t, nil)
	s, e := equate.Solve(a.equations)
	if e == api.ErrOccurs {
		return api.Type{}, api.ErrType
	}
	if e != api.OK {
		return api.Type{}, e
	}
	whole, ok := knots.Fill(whole, api.MaxGrown, knots.Look(knots.ByName(s)))
	if !ok {
		return api.Type{}, api.ErrFull
	}
	return numbered(whole, map[string]int{}), api.OK
}

// numbered is a type whose bases have the numbers of its variables: a new one gets the
// next number.
func numbered(t api.Term, numbers map[string]int) api.Type {
	if knots.IsVariable(t.Name) {
		n, ok := numbers[t.Name]
		if !ok {
			n = len(numbers)
			numbers[t.Name] = n
		}
		return api.Type{Base: n}
	}
	from := numbered(t.Args[0], numbers)
	return api.Type{Subs: []api.Type{from, numbered(t.Args[1], numbers)}}
}
