package comb

import "metaprune/api"

// Names of symbols that have a meaning.
const (
	apName = "ap"
	sName  = "s"
	kName  = "k"
	iName  = "i"
)

// ap is f applied to x.
func ap(f, x api.Term) api.Term { return api.Term{Name: apName, Args: []api.Term{f, x}} }

func symbol(name string) api.Term { return api.Term{Name: name} }

// without is a term that, applied to a thing, is t with that for the variable v. What
// it takes of t it takes once, in t's own memory.
func without(v string, t api.Term) api.Term { return always(bracket(v, t)) }

// always is what bracket answered, made such a term in any case.
func always(t api.Term, found bool) api.Term {
	if found {
		return t
	}
	return ap(symbol(kName), t)
}

// bracket is such a term; or it says that v doesn't stand in t, and is t itself. So
// each knot is asked once whether v is there.
func bracket(v string, t api.Term) (out api.Term, found bool) {
	if t.Name == v {
		return symbol(iName), true
	}
	if len(t.Args) == 0 {
		return t, false
	}
	f, inFirst := bracket(v, t.Args[0])
	x, inSecond := bracket(v, t.Args[1])
	if !inFirst && !inSecond {
		return t, false
	}
	if !inFirst && t.Args[1].Name == v {
		return f, true
	}
	return ap(ap(symbol(sName), always(f, inFirst)), always(x, inSecond)), true
}
