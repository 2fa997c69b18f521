package unify

import (
	"iter"
	"testing"

	"metaprune/api"
	"metaprune/sample"
)

// die: numbers that look drawn, the same each time.
type die uint32

func (d *die) roll(most int) int {
	*d = *d*1664525 + 1013904223
	return int(*d>>8) % most
}

func (d *die) term(deep int) api.Term {
	if deep == 0 || d.roll(3) == 0 {
		return knot([]string{"X", "Y", "Z", "U", "V", "W", "a", "b"}[d.roll(8)])
	}
	if d.roll(3) == 0 {
		return knot("h", d.term(deep-1))
	}
	return knot("f", d.term(deep-1), d.term(deep-1))
}

// drawn are lists of equations, ever others.
func drawn(many int) iter.Seq[[]api.Pair] {
	return func(yield func([]api.Pair) bool) {
		d := die(7)
		for range many {
			var l []api.Pair
			for range d.roll(5) {
				l = append(l, api.Pair{Left: d.term(3), Right: d.term(3)})
			}
			if !yield(l) {
				return
			}
		}
	}
}

// great are such as well of which something becomes great: a variable is bound
// to a term with another one in it many times, that again, and so on.
func great(many int) iter.Seq[[]api.Pair] {
	return func(yield func([]api.Pair) bool) {
		d := die(11)
		names := []string{"A", "B", "C", "D", "E"}
		for range many {
			var l []api.Pair
			for i := range names[:4] {
				x := broad(1+d.roll(12), knot(names[i+1]))
				l = append(l, api.Pair{Left: knot(names[i]), Right: x})
			}
			for range d.roll(4) {
				p := api.Pair{Left: d.term(2), Right: d.term(2)}
				if d.roll(2) == 0 {
					p.Left = knot(names[d.roll(5)])
				}
				if d.roll(2) == 0 {
					p.Right = knot("f", p.Right, knot(names[d.roll(5)]))
				}
				l = append(l, p)
			}
			for i := range l {
				j := d.roll(len(l))
				l[i], l[j] = l[j], l[i]
			}
			if !yield(l) {
				return
			}
		}
	}
}

func TestD1WordByWord(t *testing.T) {
	told := map[api.Errno]int{}
	for _, draw := range []iter.Seq[[]api.Pair]{drawn(4000), great(1500)} {
		for l := range draw {
			s, e := Unify(l)
			r, f := sample.Unify(l)
			if e != f || textOfBinds(s) != textOfBinds(r) {
				t.Fatalf("Unify of %s: error %d %s, want %d %s", textOfPairs(l), e, textOfBinds(s), f, textOfBinds(r))
			}
			told[e]++
		}
	}
	for _, e := range []api.Errno{api.OK, api.ErrClash, api.ErrOccurs, api.ErrFull} {
		if told[e] < 50 {
			t.Errorf("error %d is told just %d times", e, told[e])
		}
	}
}
