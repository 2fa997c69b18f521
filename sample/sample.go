// Package sample: terms for the tests of the layers, made without asking whether
// they may be. No layer calls it.
package sample

import (
	"strings"

	"metaprune/api"
)

// Knot is a name with terms below it.
func Knot(name string, args ...api.Term) api.Term { return api.Term{Name: name, Args: args} }

// Broad is f above so many of x.
func Broad(many int, x api.Term) api.Term {
	t := Knot("f")
	for range many {
		t.Args = append(t.Args, x)
	}
	return t
}

// Tower is h above h .. above x: so many h's.
func Tower(many int, x api.Term) api.Term {
	for range many {
		x = Knot("h", x)
	}
	return x
}

// Endless holds itself, at both places below it.
func Endless() api.Term {
	args := make([]api.Term, 2)
	t := api.Term{Name: "f", Args: args}
	args[0], args[1] = t, t
	return t
}

// Text of a term: the tests' own, so that no call under test helps.
func Text(t api.Term) string {
	if len(t.Args) == 0 {
		return t.Name
	}
	return t.Name + "(" + strings.Join(Texts(t.Args), ",") + ")"
}

// Texts of terms.
func Texts(terms []api.Term) []string {
	var l []string
	for _, t := range terms {
		l = append(l, Text(t))
	}
	return l
}

// Count is how many knots a term has.
func Count(t api.Term) int {
	n := 1
	for _, a := range t.Args {
		n += Count(a)
	}
	return n
}

// Spoil writes into all memory of a term.
func Spoil(t api.Term) {
	for i := range t.Args {
		Spoil(t.Args[i])
		t.Args[i] = Knot("spoilt")
	}
}

// Wrong: a term that may not be, and what is wrong with it.
type Wrong struct {
	What  string
	Term  api.Term
	Errno api.Errno
}

// Wrongs are terms that may not be: each way in which one is refused.
func Wrongs() []Wrong {
	return []Wrong{
		{"no name", api.Term{}, api.ErrName},
		{"a wrong name within", Knot("f", Knot("a"), Knot("9")), api.ErrName},
		{"a variable with one below", Knot("f", Knot("X", Knot("a"))), api.ErrForm},
		{"MaxNodes + 1 knots", Broad(api.MaxNodes, Knot("a")), api.ErrLimit},
		{"a term that holds itself", Endless(), api.ErrLimit},
	}
}

// Die: numbers that look drawn, the same each time.
type Die uint32

// Roll is a number from 0 on, below most.
func (d *Die) Roll(most int) int {
	*d = *d*1664525 + 1013904223
	return int(*d>>8) % most
}

// Term has at most so many knots above each of its leaves, which are some of these.
func (d *Die) Term(deep int, leaves ...string) api.Term {
	if deep == 0 || d.Roll(4) == 0 {
		return Knot(leaves[d.Roll(len(leaves))])
	}
	name := []string{"h", "k", "f", "g"}[d.Roll(4)]
	x := d.Term(deep-1, leaves...)
	if name == "h" || name == "k" {
		return Knot(name, x)
	}
	return Knot(name, x, d.Term(deep-1, leaves...))
}
