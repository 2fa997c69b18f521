package knots

import "metaprune/api"

// Fit is what stands for p's variables so that p becomes t, in t's own memory;
// false: nothing does that.
func Fit(p, t api.Term) (map[string]api.Term, bool) {
	stands := map[string]api.Term{}
	var fits func(p, t api.Term) bool
	fits = func(p, t api.Term) bool {
		if IsVariable(p.Name) {
			x, ok := stands[p.Name]
			if !ok {
				stands[p.Name] = t
			}
			return !ok || Same(x, t)
		}
		if p.Name != t.Name || len(p.Args) != len(t.Args) {
			return false
		}
		for i := range p.Args {
			if !fits(p.Args[i], t.Args[i]) {
				return false
			}
		}
		return true
	}
	if !fits(p, t) {
		return nil, false
	}
	return stands, true
}
