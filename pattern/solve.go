package pattern

import (
	"slices"

	"metaprune/api"
	"metaprune/binders"
)

// solver: the unknowns, those of the goals first, then those that they are pruned to.
type solver struct{ unknowns []unknown }

// unknown: how many things it is applied to, and what stands for it, if that is known:
// these things are called 0, 1, .. there.
type unknown struct {
	many  int
	known bool
	body  spine
}

func newSolver(many []int) *solver {
	s := &solver{}
	for _, n := range many {
		s.more(n)
	}
	return s
}

// more is one unknown more.
func (s *solver) more(many int) head {
	s.unknowns = append(s.unknowns, unknown{many: many})
	return head{api.Meta, len(s.unknowns) - 1}
}

func (s *solver) know(h head, body spine) {
	u := &s.unknowns[h.number]
	u.known, u.body = true, body
}

// seen is t, under so many binders, with what is known for the head.
func (s *solver) seen(t spine, deep int) spine {
	for t.head.kind == api.Meta && s.unknowns[t.head.number].known {
		t = t.with(s.unknowns[t.head.number].body, deep)
	}
	return t
}

// whole is t with all that is known.
func (s *solver) whole(t spine, deep int) spine {
	t = s.seen(t, deep)
	out := spine{binders: t.binders, head: t.head}
	for _, x := range t.args {
		out.args = append(out.args, s.whole(x, deep+t.binders))
	}
	return out
}

// solve makes two terms one, under so many binders; false: nothing does. Of two with
// unlike numbers of binders the one with fewer is applied to what the others bind,
// unless it is an unknown, for which the whole of the other one may stand.
func (s *solver) solve(a, b spine, deep int) bool {
	a, b = s.seen(a, deep), s.seen(b, deep)
	both := min(a.binders, b.binders)
	a.binders -= both
	b.binders -= both
	deep += both
	switch {
	case a.isUnknown():
		return s.stand(a, b, deep)
	case b.isUnknown():
		return s.stand(b, a, deep)
	case a.binders > 0:
		return s.solveWithin(a, b, deep)
	case b.binders > 0:
		return s.solveWithin(b, a, deep)
	}
	return a.head == b.head && s.solveAll(a.args, b.args, deep)
}

// solveWithin goes below the binders of a; b has none.
func (s *solver) solveWithin(a, b spine, deep int) bool {
	more := a.binders
	a.binders = 0
	return s.solve(a, b.applied(deep, more), deep+more)
}

func (s *solver) solveAll(a, b []spine, deep int) bool {
	if len(a) != len(b) {
		return false
	}
	for i := range a {
		if !s.solve(a[i], b[i], deep) {
			return false
		}
	}
	return true
}

// stand has t stand for an unknown that is applied to things.
func (s *solver) stand(a, t spine, deep int) bool {
	t = s.whole(t, deep)
	if t.head == a.head && t.binders == 0 {
		s.agree(a, t)
		return true
	}
	if t.holds(a.head) {
		return s.choose(a, t, deep)
	}
	name := renamer(places(a.args), deep, len(a.args))
	if !s.prune(t, deep, name) {
		return false
	}
	s.know(a.head, s.whole(t, deep).called(name))
	return true
}

// agree: an unknown that is applied to some things, and to some, is the same if it
// hangs alone on those that stand at the same place.
func (s *solver) agree(a, b spine) {
	s.narrow(a.head, len(a.args), func(i int) bool { return a.args[i].head == b.args[i].head })
}

// choose: an unknown a that stands within its own t would never end, if t kept what
// stands there. It doesn't, where \y.x (a y) becomes \y.x y, and that x: then a is one
// of the things that it is applied to, and t, whose head it keeps, says which one.
func (s *solver) choose(a, t spine, deep int) bool {
	i := slices.IndexFunc(a.args, func(x spine) bool { return x.head == t.head })
	if i < 0 {
		return false
	}
	s.know(a.head, thing(i))
	return s.solve(a, t, deep)
}

// prune: has all in t a name where it is to stand? Unknowns that are applied to things
// without one can't hang on these.
func (s *solver) prune(t spine, deep int, name namer) bool {
	t = s.seen(t, deep)
	if t.head.kind == api.Meta {
		s.narrow(t.head, len(t.args), func(i int) bool { return name(t.args[i].head.number) != nameless })
		return true
	}
	if t.head.kind == api.Bound && name(t.head.number) == nameless {
		return false
	}
	for _, x := range t.args {
		if !s.prune(x, deep+t.binders, name) {
			return false
		}
	}
	return true
}

// narrow has an unknown more stand for one that hangs on some of its things alone.
func (s *solver) narrow(h head, many int, keeps func(i int) bool) {
	var kept []spine
	for i, x := range things(0, many) {
		if keeps(i) {
			kept = append(kept, x)
		}
	}
	if len(kept) < many {
		s.know(h, spine{head: s.more(len(kept)), args: kept})
	}
}

// answers tells of each of the first unknowns what stands for it, and how many
// unknowns that leaves.
func (s *solver) answers(metas int) ([]api.Lam, int) {
	var l []api.Lam
	for i, u := range s.unknowns[:metas] {
		t := spine{binders: u.many, head: head{api.Meta, i}, args: things(0, u.many)}
		l = append(l, binders.Eta(s.whole(t, 0).written(0)))
	}
	numbers := map[int]int{}
	for i := range l {
		number(&l[i], numbers)
	}
	return l, len(numbers)
}

// number gives unknowns the numbers 0, 1, .. as they come.
func number(t *api.Lam, numbers map[int]int) {
	if t.Kind == api.Meta {
		n, ok := numbers[t.Index]
		if !ok {
			n = len(numbers)
			numbers[t.Index] = n
		}
		t.Index = n
	}
	for i := range t.Subs {
		number(&t.Subs[i], numbers)
	}
}
