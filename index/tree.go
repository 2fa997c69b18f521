package index

import (
	"iter"

	"metaprune/api"
	"metaprune/knots"
)

// question: which terms of an index are asked for.
type question int

const (
	over question = iota
	under
	near
)

// sign: a symbol's name, and how many terms stand below it; without a name: a
// variable's, whichever it is.
type sign struct {
	name  string
	below int
}

func signOf(t api.Term) sign {
	if knots.IsVariable(t.Name) {
		return sign{}
	}
	return sign{t.Name, len(t.Args)}
}

func (s sign) isVariable() bool { return s.name == "" }

// spot: a knot's sign, and the number of the first spot behind all that is below it.
type spot struct {
	sign
	behind int
}

// spots goes on with those of a term, knot by knot.
func spots(l []spot, t api.Term) []spot {
	here := len(l)
	l = append(l, spot{sign: signOf(t)})
	for _, a := range t.Args {
		l = spots(l, a)
	}
	l[here].behind = len(l)
	return l
}

// node of a tree: where signs lead on to; at a leaf the numbers of the terms whose
// signs, knot by knot, lead there. No term's signs go on behind another one's.
type node struct {
	next    map[sign]*node
	numbers []int
}

// lay puts a term's number where its spots lead to.
func (n *node) lay(l []spot, number int) {
	for _, s := range l {
		if n.next == nil {
			n.next = map[sign]*node{}
		}
		if n.next[s.sign] == nil {
			n.next[s.sign] = &node{}
		}
		n = n.next[s.sign]
	}
	n.numbers = append(n.numbers, number)
}

// behind goes through all nodes to which the signs of one term, whichever it is,
// lead on from a node. Their order is none: who tells of them sorts.
func (n *node) behind() iter.Seq[*node] {
	return func(yield func(*node) bool) { n.past(1, yield) }
}

// past goes past so many terms.
func (n *node) past(terms int, yield func(*node) bool) bool {
	if terms == 0 {
		return yield(n)
	}
	for s, m := range n.next {
		if !m.past(terms-1+s.below, yield) {
			return false
		}
	}
	return true
}

// search: the spots of the term that is asked, and the numbers to which they lead.
type search struct {
	kind    question
	spots   []spot
	numbers []int
}

// walk goes on from a node, with the spot at a place.
func (s *search) walk(n *node, at int) {
	if at == len(s.spots) {
		s.numbers = append(s.numbers, n.numbers...)
		return
	}
	here := s.spots[at]
	if here.isVariable() && s.kind != over {
		for m := range n.behind() {
			s.walk(m, here.behind)
		}
		return
	}
	if m := n.next[sign{}]; m != nil && s.kind != under {
		s.walk(m, here.behind)
	}
	if m := n.next[here.sign]; m != nil && !here.isVariable() {
		s.walk(m, at+1)
	}
}
