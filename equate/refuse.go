package equate

import (
	"metaprune/api"
	"metaprune/knots"
)

// mostLooked: how many knots and bindings a sketch looks at. Beyond that it says
// nothing.
const mostLooked = 50 * api.MaxGrown

// sketch: equations worked off without what stands for variables being put into
// terms: so none is copied.
type sketch struct {
	stands map[string]*api.Term
	left   int
}

// refusal is why equations can't hold, told soon; OK: that isn't known. (Most terms
// that are held against each other, as many rules are, don't become one.) Terms
// never become less: so if none of these is too great when the equations are
// refused, none was ahead of that.
func refusal(l []api.Pair) api.Errno {
	s := sketch{stands: map[string]*api.Term{}, left: mostLooked}
	for i := range l {
		e := s.workOff(&l[i].Left, &l[i].Right)
		if e != api.OK && s.isAllSmall(l) {
			return e
		}
		if e != api.OK {
			return api.OK
		}
	}
	return api.OK
}

func (s *sketch) workOff(a, b *api.Term) api.Errno {
	a, b = s.look(a), s.look(b)
	s.left--
	switch {
	case s.left < 0:
		return api.ErrFull
	case knots.IsVariable(a.Name):
		return s.bind(a.Name, b)
	case knots.IsVariable(b.Name):
		return s.bind(b.Name, a)
	case a.Name != b.Name || len(a.Args) != len(b.Args):
		return api.ErrClash
	}
	for i := range a.Args {
		if e := s.workOff(&a.Args[i], &b.Args[i]); e != api.OK {
			return e
		}
	}
	return api.OK
}

// look is the term that stands for a variable at last. Each one on the way there is
// counted: ways may be long, and gone along again and again.
func (s *sketch) look(t *api.Term) *api.Term {
	for s.left >= 0 && knots.IsVariable(t.Name) {
		x, ok := s.stands[t.Name]
		if !ok {
			break
		}
		t = x
		s.left--
	}
	return t
}

func (s *sketch) bind(name string, t *api.Term) api.Errno {
	if t.Name == name {
		return api.OK
	}
	if s.holds(t, name) {
		return api.ErrOccurs
	}
	s.stands[name] = t
	return api.OK
}

func (s *sketch) holds(t *api.Term, name string) bool {
	t = s.look(t)
	if s.left--; s.left < 0 || t.Name == name {
		return true
	}
	for i := range t.Args {
		if s.holds(&t.Args[i], name) {
			return true
		}
	}
	return false
}

// isAllSmall: is none of the terms too great, with what stands for variables? No,
// too, if too much was looked at.
func (s *sketch) isAllSmall(l []api.Pair) bool {
	for i := range l {
		if s.count(&l[i].Left, 0) > api.MaxGrown || s.count(&l[i].Right, 0) > api.MaxGrown {
			return false
		}
	}
	return true
}

// count is how many knots there are, behind so many others; it stops at the first
// one too many.
func (s *sketch) count(t *api.Term, before int) int {
	t = s.look(t)
	if s.left < 0 {
		return api.MaxGrown + 1
	}
	n := before + 1
	for i := range t.Args {
		if n > api.MaxGrown {
			break
		}
		n = s.count(&t.Args[i], n)
	}
	return n
}
