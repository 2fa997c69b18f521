package pattern

import (
	"slices"

	"metaprune/api"
)

// spine: a term in which nothing is left to work out: so many binders around a head
// that is applied to others. A thing bound is called by how many binders stand around
// its own: so both sides of a goal call it the same.
type spine struct {
	binders int
	head    head
	args    []spine
}

// head: a thing bound, by what it is called; a constant; an unknown.
type head struct{ kind, number int }

// read takes a term under so many binders that is a pattern.
func read(t api.Lam, deep int) spine {
	var s spine
	for ; t.Kind == api.Lambda; t = t.Subs[0] {
		s.binders++
	}
	deep += s.binders
	t, args := parted(t)
	for _, x := range args {
		s.args = append(s.args, read(x, deep))
	}
	s.head = head{t.Kind, t.Index}
	if t.Kind == api.Bound {
		s.head.number = deep - 1 - t.Index
	}
	return s
}

// written is the term that was read.
func (s spine) written(deep int) api.Lam {
	deep += s.binders
	t := api.Lam{Kind: s.head.kind, Index: s.head.number}
	if t.Kind == api.Bound {
		t.Index = deep - 1 - s.head.number
	}
	for _, x := range s.args {
		t = api.Lam{Kind: api.Apply, Subs: []api.Lam{t, x.written(deep)}}
	}
	for range s.binders {
		t = api.Lam{Kind: api.Lambda, Subs: []api.Lam{t}}
	}
	return t
}

// thing is a thing bound, alone.
func thing(name int) spine { return spine{head: head{api.Bound, name}} }

// things are all that are called from one number on, below another one.
func things(from, below int) []spine {
	var l []spine
	for name := from; name < below; name++ {
		l = append(l, thing(name))
	}
	return l
}

// nameless: what a thing is called where nothing binds it.
const nameless = -1

// namer tells what a thing is called where a term comes to stand elsewhere.
type namer func(name int) int

// renamer is that of a term under so many binders that comes to stand under others:
// things bound within it are counted on; those from outside are told by a map.
func renamer(outside map[int]int, from, to int) namer {
	return func(name int) int {
		if name >= from {
			return name - from + to
		}
		if other, ok := outside[name]; ok {
			return other
		}
		return nameless
	}
}

// called is s with all things called so.
func (s spine) called(name namer) spine {
	out := spine{binders: s.binders, head: s.head}
	if s.head.kind == api.Bound {
		out.head.number = name(s.head.number)
	}
	for _, x := range s.args {
		out.args = append(out.args, x.called(name))
	}
	return out
}

// with is s, whose head is an unknown, with a body for that: the things to which the
// unknown is applied come for those that are called 0, 1, .. in the body.
func (s spine) with(body spine, deep int) spine {
	outside := map[int]int{}
	for i, x := range s.args {
		outside[i] = x.head.number
	}
	out := body.called(renamer(outside, len(s.args), deep+s.binders))
	out.binders += s.binders
	return out
}

// places tells the other way round by which number a body calls things.
func places(args []spine) map[int]int {
	outside := map[int]int{}
	for i, x := range args {
		outside[x.head.number] = i
	}
	return outside
}

// applied is s, under so many binders, under more of them, applied to what these bind.
func (s spine) applied(deep, more int) spine {
	out := s.called(renamer(places(things(0, deep)), deep, deep+more))
	out.args = append(out.args, things(deep, deep+more)...)
	return out
}

// holds: is it the head of s, or of something below?
func (s spine) holds(h head) bool {
	inX := func(x spine) bool { return x.holds(h) }
	return s.head == h || slices.ContainsFunc(s.args, inX)
}

// isUnknown: is it an unknown, applied to things, and no binder?
func (s spine) isUnknown() bool { return s.head.kind == api.Meta && s.binders == 0 }
