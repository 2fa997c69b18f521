package knots

import "metaprune/api"

// Fit is what stands for p's variables so that p becomes t, in t's own memory;
// false: nothing does that.
func Fit(p, t api.Term) (map[string]api.Term, bool) {
	if !isShaped(&p, &t) {
		return nil, false
	}
	stands := map[string]api.Term{}
	var bind func(p, t api.Term) bool
	bind = func(p, t api.Term) bool {
		if IsVariable(p.Name) {
			x, ok := stands[p.Name]
			if !ok {
				stands[p.Name] = t
			}
			return !ok || Same(x, t)
		}
		for i := range p.Args {
			if !bind(p.Args[i], t.Args[i]) {
				return false
			}
		}
		return true
	}
	if !bind(p, t) {
		return nil, false
	}
	return stands, true
}

// isShaped: does t have p's symbols wherever p has some? That is asked first,
// since it needs no memory, and most terms that are held against rules do not.
func isShaped(p, t *api.Term) bool {
	if IsVariable(p.Name) {
		return true
	}
	if p.Name != t.Name || len(p.Args) != len(t.Args) {
		return false
	}
	for i := range p.Args {
		if !isShaped(&p.Args[i], &t.Args[i]) {
			return false
		}
	}
	return true
}
