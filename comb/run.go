package comb

import "metaprune/api"

// row: so many terms, each applied to the next one, what came of that to the one
// behind it, and so on. What stands at a place is told from 0, the front, on.
type row struct {
	many int
	at   func(place int) api.Term
}

// rowOf is the longest row of aps whose last one is t's knot. At its front stands no
// ap.
func rowOf(t api.Term) row {
	var l []api.Term
	for len(t.Args) == 2 {
		l = append(l, t.Args[1])
		t = t.Args[0]
	}
	l = append(l, t)
	return row{len(l), func(place int) api.Term { return l[len(l)-1-place] }}
}

// term of a row.
func (r row) term() api.Term {
	t := r.at(0)
	for place := 1; place < r.many; place++ {
		t = ap(t, r.at(place))
	}
	return t
}

// with is a row in which x stands at a place.
func (r row) with(place int, x api.Term) row {
	return row{r.many, func(p int) api.Term {
		if p == place {
			return x
		}
		return r.at(p)
	}}
}

// work is what a row comes to by the symbol at its front; false: that does nothing.
func (r row) work() (row, bool) {
	switch name := r.at(0).Name; {
	case name == iName && r.many > 1:
		return row{r.many - 1, func(p int) api.Term { return r.at(p + 1) }}, true
	case name == kName && r.many > 2:
		return row{r.many - 2, func(p int) api.Term {
			if p == 0 {
				return r.at(1)
			}
			return r.at(p + 2)
		}}, true
	case name == sName && r.many > 3:
		return row{r.many - 1, r.shared}, true
	}
	return row{}, false
}

// shared is what stands at a place behind the work of s: x z (y z), and so on.
func (r row) shared(p int) api.Term {
	switch p {
	case 0:
		return r.at(1)
	case 1:
		return r.at(3)
	case 2:
		return ap(r.at(2), r.at(3))
	}
	return r.at(p + 1)
}

// step is what t becomes by the first step that there is, partly in t's own memory;
// false: there is none.
func step(t api.Term) (api.Term, bool) {
	r := rowOf(t)
	if next, ok := r.work(); ok {
		return next.term(), true
	}
	for place := 1; place < r.many; place++ {
		if x, ok := step(r.at(place)); ok {
			return r.with(place, x).term(), true
		}
	}
	return api.Term{}, false
}
