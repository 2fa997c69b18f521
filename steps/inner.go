package steps

import (
	"metaprune/api"
	"metaprune/knots"
)

// inner: how many steps may be done and were, and how many knots the whole term
// has by now.
type inner struct {
	rules      []api.Pair
	most, done int
	size       int
}

// Inner is what t becomes by innermost steps at last, and how many. The first place
// below which nothing fits is come to from the leaves on, from the left: so each
// part is worked out once, and again only what a rule puts above it.
func Inner(rules []api.Pair, t api.Term, most int) (api.Term, int, api.Errno) {
	w := inner{rules: rules, most: most, size: knots.Count(t, api.MaxGrown)}
	x, e := w.end(t, nil)
	if e != api.OK {
		return api.Term{}, 0, e
	}
	return knots.Copy(x), w.done, api.OK
}

// Meet: do two terms become the same by innermost steps, at most so many each?
func Meet(rules []api.Pair, a, b api.Term, most int) (bool, api.Errno) {
	x, _, e := Inner(rules, a, most)
	if e != api.OK {
		return false, e
	}
	y, _, e := Inner(rules, b, most)
	if e != api.OK {
		return false, e
	}
	return knots.Same(x, y), api.OK
}

// end works t out, with what stands for its variables, which is worked out already.
func (w *inner) end(t api.Term, stands map[string]api.Term) (api.Term, api.Errno) {
	if x, ok := stands[t.Name]; ok {
		return x, api.OK
	}
	out := api.Term{Name: t.Name}
	for _, a := range t.Args {
		x, e := w.end(a, stands)
		if e != api.OK {
			return api.Term{}, e
		}
		out.Args = append(out.Args, x)
	}
	return w.endKnot(out)
}

// endKnot works out a term in which nothing fits but, it may be, the whole.
func (w *inner) endKnot(t api.Term) (api.Term, api.Errno) {
	f, ok := first(fits(w.rules, t))
	if !ok {
		return t, api.OK
	}
	if w.done == w.most {
		return api.Term{}, api.ErrFuel
	}
	w.done++
	w.size += f.count(f.right, 0) - knots.Count(t, api.MaxGrown)
	if w.size > api.MaxGrown {
		return api.Term{}, api.ErrFull
	}
	return w.end(f.right, f.stands)
}

// count is how many knots t has with what stands for its variables, behind so many
// others. It stops at the first one too many for any term.
func (f fit) count(t api.Term, before int) int {
	if x, ok := f.stands[t.Name]; ok {
		return before + knots.Count(x, api.MaxGrown)
	}
	n := before + 1
	for _, a := range t.Args {
		if n > api.MaxGrown {
			break
		}
		n = f.count(a, n)
	}
	return n
}
