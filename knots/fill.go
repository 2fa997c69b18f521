package knots

import "metaprune/api"

// Fill is a copy of t in which what stands for its variables is put, each place
// once; false: it would have more than most knots.
func Fill(t api.Term, most int, stands func(name string) (api.Term, bool)) (api.Term, bool) {
	f := filler{left: most, stands: stands}
	out := f.fill(t)
	if f.left < 0 {
		return api.Term{}, false
	}
	return out, true
}

// ByName lays bindings into a map.
func ByName(s []api.Bind) map[string]api.Term {
	stands := map[string]api.Term{}
	for _, b := range s {
		stands[b.Name] = b.Term
	}
	return stands
}

// Look looks for what stands for a variable, as Fill asks for it.
func Look(stands map[string]api.Term) func(name string) (api.Term, bool) {
	return func(name string) (api.Term, bool) {
		x, ok := stands[name]
		return x, ok
	}
}

// filler: how many knots may still come, and what stands for variables.
type filler struct {
	left   int
	stands func(name string) (api.Term, bool)
}

func (f *filler) fill(t api.Term) api.Term {
	if IsVariable(t.Name) {
		if x, ok := f.stands(t.Name); ok {
			return f.knot(x, f.copy)
		}
	}
	return f.knot(t, f.fill)
}

// copy takes a term as it is: what was put for a variable isn't filled again.
func (f *filler) copy(t api.Term) api.Term { return f.knot(t, f.copy) }

// knot is t's knot above what each makes of those below. Behind the first knot
// too many nothing is made any more, since nothing of it will be told.
func (f *filler) knot(t api.Term, each func(api.Term) api.Term) api.Term {
	f.left--
	out := api.Term{Name: t.Name}
	for _, a := range t.Args {
		if f.left < 0 {
			break
		}
		out.Args = append(out.Args, each(a))
	}
	return out
}
