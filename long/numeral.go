package long

import "metaprune/api"

// numeral does a thing to another one so many times.
func numeral(n int) api.Lam {
	t := bound(0)
	for range n {
		t = applied(bound(1), t)
	}
	return binder(binder(t))
}

// value is the number of a numeral; false: it is none. That of 1 may lack its second
// binder, which does nothing.
func value(t api.Lam) (int, bool) {
	if t.Kind != api.Lambda {
		return 0, false
	}
	t = t.Subs[0]
	if t.Kind != api.Lambda {
		return 1, isBound(t, 0)
	}
	t = t.Subs[0]
	n := 0
	for t.Kind == api.Apply && isBound(t.Subs[0], 1) {
		n++
		t = t.Subs[1]
	}
	return n, isBound(t, 0)
}

func isBound(t api.Lam, index int) bool { return t.Kind == api.Bound && t.Index == index }
