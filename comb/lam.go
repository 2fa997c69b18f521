package comb

import (
	"strconv"

	"metaprune/api"
	"metaprune/knots"
	"metaprune/lambda"
)

// What the symbols do, as lambda terms.
const (
	iText = `\x0.x0`
	kText = `\x0.\x1.x0`
	sText = `\x0.\x1.\x2.x0 x2 (x1 x2)`
)

// from is t, under so many binders, without what is bound within; what these bind
// are variables yet. False: something comes to more than MaxGrown knots.
func from(t api.Lam, around int) (api.Term, bool) {
	switch t.Kind {
	case api.Bound:
		return symbol(variable(around - 1 - t.Index)), true
	case api.Const:
		return symbol("c" + strconv.Itoa(t.Index)), true
	case api.Lambda:
		body, ok := from(t.Subs[0], around+1)
		if !ok {
			return api.Term{}, false
		}
		return unlessTooGreat(without(variable(around), body))
	}
	f, ok := from(t.Subs[0], around)
	if !ok {
		return api.Term{}, false
	}
	x, ok := from(t.Subs[1], around)
	if !ok {
		return api.Term{}, false
	}
	return unlessTooGreat(ap(f, x))
}

// variable is the name of what the binder binds that has so many around it.
func variable(around int) string { return "X" + strconv.Itoa(around) }

func unlessTooGreat(t api.Term) (api.Term, bool) {
	if isTooGreat(t) {
		return api.Term{}, false
	}
	return t, true
}

// to is t as a lambda term; or why its first leaf that tells none doesn't.
func to(t api.Term) (api.Lam, api.Errno) {
	if len(t.Args) == 0 {
		return leaf(t.Name)
	}
	f, e := to(t.Args[0])
	if e != api.OK {
		return api.Lam{}, e
	}
	x, e := to(t.Args[1])
	if e != api.OK {
		return api.Lam{}, e
	}
	return api.Lam{Kind: api.Apply, Subs: []api.Lam{f, x}}, api.OK
}

func leaf(name string) (api.Lam, api.Errno) {
	if knots.IsVariable(name) {
		return api.Lam{}, api.ErrOpen
	}
	switch name {
	case iName:
		return lambda.Parse(iText, nil)
	case kName:
		return lambda.Parse(kText, nil)
	case sName:
		return lambda.Parse(sText, nil)
	}
	if n, ok := constant(name); ok {
		return api.Lam{Kind: api.Const, Index: n}, api.OK
	}
	return api.Lam{}, api.ErrName
}

// constant is the number of a constant's name. A number has one way to be told:
// without noughts ahead.
func constant(name string) (int, bool) {
	if name[0] != 'c' {
		return 0, false
	}
	n, err := strconv.Atoi(name[1:])
	return n, err == nil && n < api.MaxList && strconv.Itoa(n) == name[1:]
}
