package unify

import (
	"iter"
	"slices"
	"strings"
	"testing"

	"metaprune/api"
)

// plain does word by word what the promise says, as slow as that may be.
func plain(l []api.Pair) ([]api.Bind, api.Errno) {
	var s []api.Bind
	todo := slices.Clone(l)
	for len(todo) > 0 {
		a, b := todo[0].Left, todo[0].Right
		todo = todo[1:]
		for _, t := range []*api.Term{&a, &b} {
			*t = withAll(*t, s)
			if count(*t) > api.MaxGrown {
				return nil, api.ErrFull
			}
		}
		switch {
		case isVariable(a) && a.Name == b.Name:
			continue
		case isVariable(b) && !isVariable(a):
			a, b = b, a
		case isVariable(a):
		case a.Name != b.Name || len(a.Args) != len(b.Args):
			return nil, api.ErrClash
		default:
			var below []api.Pair
			for i := range a.Args {
				below = append(below, api.Pair{Left: a.Args[i], Right: b.Args[i]})
			}
			todo = append(below, todo...)
			continue
		}
		one := []api.Bind{{Name: a.Name, Term: b}}
		if textOf(withAll(b, one)) != textOf(b) {
			return nil, api.ErrOccurs
		}
		for i := range s {
			s[i].Term = withAll(s[i].Term, one)
			if count(s[i].Term) > api.MaxGrown {
				return nil, api.ErrFull
			}
		}
		s = append(s, one...)
		slices.SortFunc(s, func(x, y api.Bind) int { return strings.Compare(x.Name, y.Name) })
	}
	return s, api.OK
}

func isVariable(t api.Term) bool { return t.Name[0] < 'a' }

func withAll(t api.Term, s []api.Bind) api.Term {
	for _, b := range s {
		if t.Name == b.Name {
			return b.Term
		}
	}
	out := knot(t.Name)
	for _, a := range t.Args {
		out.Args = append(out.Args, withAll(a, s))
	}
	return out
}

// die: numbers that look drawn, the same each time.
type die uint32

func (d *die) roll(most int) int {
	*d = *d*1664525 + 1013904223
	return int(*d>>8) % most
}

func (d *die) term(deep int) api.Term {
	if deep == 0 || d.roll(3) == 0 {
		return knot([]string{"X", "Y", "Z", "U", "V", "W", "a", "b"}[d.roll(8)])
	}
	if d.roll(3) == 0 {
		return knot("h", d.term(deep-1))
	}
	return knot("f", d.term(deep-1), d.term(deep-1))
}

// drawn are lists of equations, ever others.
func drawn(many int) iter.Seq[[]api.Pair] {
	return func(yield func([]api.Pair) bool) {
		d := die(7)
		for range many {
			var l []api.Pair
			for range d.roll(5) {
				l = append(l, api.Pair{Left: d.term(3), Right: d.term(3)})
			}
			if !yield(l) {
				return
			}
		}
	}
}

// great are such as well of which something becomes great: a variable is bound
// to a term with another one in it many times, that again, and so on.
func great(many int) iter.Seq[[]api.Pair] {
	return func(yield func([]api.Pair) bool) {
		d := die(11)
		names := []string{"A", "B", "C", "D", "E"}
		for range many {
			var l []api.Pair
			for i := range names[:4] {
				x := broad(1+d.roll(12), knot(names[i+1]))
				l = append(l, api.Pair{Left: knot(names[i]), Right: x})
			}
			for range d.roll(4) {
				p := api.Pair{Left: d.term(2), Right: d.term(2)}
				if d.roll(2) == 0 {
					p.Left = knot(names[d.roll(5)])
				}
				if d.roll(2) == 0 {
					p.Right = knot("f", p.Right, knot(names[d.roll(5)]))
				}
				l = append(l, p)
			}
			for i := range l {
				j := d.roll(len(l))
				l[i], l[j] = l[j], l[i]
			}
			if !yield(l) {
				return
			}
		}
	}
}

func TestD1WordByWord(t *testing.T) {
	told := map[api.Errno]int{}
	for _, draw := range []iter.Seq[[]api.Pair]{drawn(4000), great(1500)} {
		for l := range draw {
			s, e := Unify(l)
			r, f := plain(l)
			if e != f || textOfBinds(s) != textOfBinds(r) {
				t.Fatalf("Unify of %s: error %d %s, want %d %s", textOfPairs(l), e, textOfBinds(s), f, textOfBinds(r))
			}
			told[e]++
		}
	}
	for _, e := range []api.Errno{api.OK, api.ErrClash, api.ErrOccurs, api.ErrFull} {
		if told[e] < 50 {
			t.Errorf("error %d is told just %d times", e, told[e])
		}
	}
}
