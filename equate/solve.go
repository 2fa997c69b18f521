package equate

import (
	"maps"
	"slices"

	"metaprune/api"
	"metaprune/knots"
)

// equation: two terms that are to become one, and how many variables were bound
// when what stands for these was put into both.
type equation struct {
	left, right api.Term
	bound       int
}

// stand: what stands for a variable, and how many were bound when what stands
// for these was put into it.
type stand struct {
	term  api.Term
	bound int
}

// solver: the equations to come, the next one last; what stands for variables;
// and whether some term of this was found to be too great.
type solver struct {
	todo   []equation
	stands map[string]stand
	full   bool
}

// solve works equations off. Terms of bindings never become less: so it is told
// by those at the end whether one became too great, ahead of what else is wrong.
func solve(l []api.Pair) ([]api.Bind, api.Errno) {
	s := solver{stands: map[string]stand{}}
	for _, p := range slices.Backward(l) {
		s.todo = append(s.todo, equation{left: p.Left, right: p.Right})
	}
	e := api.OK
	for e == api.OK && len(s.todo) > 0 {
		last := len(s.todo) - 1
		q := s.todo[last]
		s.todo = s.todo[:last]
		e = s.workOff(q)
	}
	out, ok := s.inOrder()
	if !ok {
		return nil, api.ErrFull
	}
	if e != api.OK {
		return nil, e
	}
	return out, api.OK
}

func (s *solver) workOff(q equation) api.Errno {
	a, b, ok := s.put(q)
	switch {
	case !ok:
		return api.ErrFull
	case knots.IsVariable(a.Name):
		return s.bind(a.Name, b)
	case knots.IsVariable(b.Name):
		return s.bind(b.Name, a)
	case a.Name != b.Name || len(a.Args) != len(b.Args):
		return api.ErrClash
	}
	s.ahead(a.Args, b.Args)
	return api.OK
}

// put is what stands for variables, put into both terms; false: one would be
// too great. To put the same in again would change nothing, so it isn't done:
// else deep terms would be copied at each of their knots.
func (s *solver) put(q equation) (a, b api.Term, ok bool) {
	if q.bound == len(s.stands) {
		return q.left, q.right, true
	}
	if a, ok = s.fill(q.left); ok {
		b, ok = s.fill(q.right)
	}
	return a, b, ok
}

func (s *solver) fill(t api.Term) (api.Term, bool) {
	out, ok := knots.Fill(t, api.MaxGrown, s.look)
	return out, ok && !s.full
}

// look is what stands for a variable, with all in it that was bound since.
func (s *solver) look(name string) (api.Term, bool) {
	x, ok := s.stands[name]
	if !ok || s.full || x.bound == len(s.stands) {
		return x.term, ok
	}
	x.bound = len(s.stands)
	if x.term, ok = s.fill(x.term); ok {
		s.stands[name] = x
	} else {
		s.full = true
	}
	return x.term, true
}

// ahead lays the equations of terms below ahead of all others.
func (s *solver) ahead(left, right []api.Term) {
	for i := len(left) - 1; i >= 0; i-- {
		s.todo = append(s.todo, equation{left[i], right[i], len(s.stands)})
	}
}

// bind lets a variable stand for a term. What others stand for gets it where it
// is looked for: most of that never is, and there may be very much of it.
func (s *solver) bind(name string, t api.Term) api.Errno {
	if t.Name == name {
		return api.OK
	}
	if knots.Holds(t, name) {
		return api.ErrOccurs
	}
	s.stands[name] = stand{t, len(s.stands)}
	return api.OK
}

func (s *solver) inOrder() ([]api.Bind, bool) {
	var out []api.Bind
	for _, name := range slices.Sorted(maps.Keys(s.stands)) {
		x, ok := s.fill(s.stands[name].term)
		if !ok {
			return nil, false
		}
		out = append(out, api.Bind{Name: name, Term: x})
	}
	return out, true
}
