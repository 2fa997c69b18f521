package complete

import (
	"metaprune/above"
	"metaprune/api"
	"metaprune/knots"
	"metaprune/match"
	"metaprune/overlaps"
	"metaprune/steps"
)

const (
	// mostSteps: by how many a term is worked out.
	mostSteps = 100
	// mostTodo: how many equations may be to come.
	mostTodo = 400
)

// maker: the rules that were made, and the equations to come.
type maker struct {
	row   []string
	rules []api.Pair
	todo  []api.Pair
}

// round takes the first equation.
func (m *maker) round() api.Errno {
	eq := m.todo[0]
	m.todo = m.todo[1:]
	a, e := m.ended(eq.Left)
	if e != api.OK {
		return e
	}
	b, e := m.ended(eq.Right)
	if e != api.OK {
		return e
	}
	switch {
	case knots.Same(a, b):
		return api.OK
	case above.Path(m.row, a, b):
		return m.add(api.Pair{Left: a, Right: b})
	case above.Path(m.row, b, a):
		return m.add(api.Pair{Left: b, Right: a})
	}
	return api.ErrOrder
}

// ended is what t becomes by the rules at last.
func (m *maker) ended(t api.Term) (api.Term, api.Errno) {
	x, _, e := steps.Inner(m.rules, t, mostSteps)
	return x, e
}

func (m *maker) add(r api.Pair) api.Errno {
	r = overlaps.Named(r)
	if isGreat(r.Left) || isGreat(r.Right) {
		return api.ErrFull
	}
	if e := m.giveBack(r); e != api.OK {
		return e
	}
	m.rules = append(m.rules, r)
	if len(m.rules) > api.MaxList {
		return api.ErrLimit
	}
	if e := m.endRights(); e != api.OK {
		return e
	}
	if e := m.addPairs(); e != api.OK {
		return e
	}
	if len(m.todo) > mostTodo {
		return api.ErrLimit
	}
	return api.OK
}

// isGreat: has a term too many knots for a rule's side?
func isGreat(t api.Term) bool { return knots.Count(t, api.MaxNodes) > api.MaxNodes }

// giveBack makes equations again of the rules to whose Left r does a step: they
// tell nothing any more that r and these would not.
func (m *maker) giveBack(r api.Pair) api.Errno {
	var stay []api.Pair
	for _, old := range m.rules {
		does, e := match.Encompasses(old.Left, r.Left)
		if e != api.OK {
			return e
		}
		if does {
			m.todo = append(m.todo, old)
		} else {
			stay = append(stay, old)
		}
	}
	m.rules = stay
	return api.OK
}

// endRights works the rules' right sides out, by those that were already and those
// that are still to be.
func (m *maker) endRights() api.Errno {
	for i := range m.rules {
		x, e := m.ended(m.rules[i].Right)
		if e != api.OK {
			return e
		}
		if isGreat(x) {
			return api.ErrFull
		}
		m.rules[i].Right = x
	}
	return api.OK
}

// addPairs makes equations of the pairs of all rules with the last one.
func (m *maker) addPairs() api.Errno {
	last := len(m.rules) - 1
	var ways [][2]int
	for i := range last {
		ways = append(ways, [2]int{i, last}, [2]int{last, i})
	}
	for _, which := range append(ways, [2]int{last, last}) {
		l, e := overlaps.Pairs(m.rules, which)
		if e != api.OK {
			return e
		}
		m.todo = append(m.todo, l...)
	}
	return api.OK
}
