package sample

import (
	"strconv"

	"metaprune/api"
)

// Base is a base.
func Base(number int) api.Type { return api.Type{Base: number} }

// Arrow is that from one type to another one.
func Arrow(from, to api.Type) api.Type { return api.Type{Subs: []api.Type{from, to}} }

// Arrows is that from types, one behind the other, to another one.
func Arrows(to api.Type, from ...api.Type) api.Type {
	for i := len(from) - 1; i >= 0; i-- {
		to = Arrow(from[i], to)
	}
	return to
}

// TypeRow is the arrow from a type to the same, to the same, .. so many of it in all.
func TypeRow(many int, x api.Type) api.Type {
	t := x
	for range many - 1 {
		t = Arrow(x, t)
	}
	return t
}

// EndlessType holds itself, at both places below it.
func EndlessType() api.Type {
	subs := make([]api.Type, 2)
	t := api.Type{Subs: subs}
	subs[0], subs[1] = t, t
	return t
}

// TypeText of a type, all in brackets: the tests' own, so that no call under test
// helps.
func TypeText(t api.Type) string {
	s := strconv.Itoa(t.Base)
	for _, x := range t.Subs {
		s += "(" + TypeText(x) + ")"
	}
	return s
}

// TypeCount is how many knots a type has.
func TypeCount(t api.Type) int {
	n := 1
	for _, x := range t.Subs {
		n += TypeCount(x)
	}
	return n
}

// IsNoType: is it what stands beside an error?
func IsNoType(t api.Type) bool { return t.Base == 0 && len(t.Subs) == 0 }

// SpoilType writes into all memory of a type.
func SpoilType(t api.Type) {
	for i := range t.Subs {
		SpoilType(t.Subs[i])
		t.Subs[i] = Base(77)
	}
}

// TypeWithAll is a type with types for its bases: for the first one the first, and so
// on, over and over again.
func TypeWithAll(ty api.Type, l []api.Type) api.Type {
	if len(ty.Subs) == 0 {
		return l[ty.Base%len(l)]
	}
	return Arrow(TypeWithAll(ty.Subs[0], l), TypeWithAll(ty.Subs[1], l))
}

// WrongType: a type that may not be, and what is wrong with it.
type WrongType struct {
	What  string
	Type  api.Type
	Errno api.Errno
}

// WrongTypes are types that may not be: each way in which one is refused.
func WrongTypes() []WrongType {
	one := api.Type{Subs: []api.Type{Base(0)}}
	three := api.Type{Subs: []api.Type{Base(0), Base(0), Base(0)}}
	both := api.Type{Base: 1, Subs: []api.Type{Base(0), Base(0)}}
	return []WrongType{
		{"an arrow of one", one, api.ErrForm},
		{"an arrow of three", Arrow(Base(0), three), api.ErrForm},
		{"an arrow with a base's number", Arrow(both, Base(0)), api.ErrForm},
		{"a base below 0", Base(-1), api.ErrPlace},
		{"a base of 1000", Arrow(Base(0), Base(1000)), api.ErrPlace},
		{"MaxNodes + 1 knots", TypeRow(api.MaxNodes/2+1, Base(0)), api.ErrLimit},
		{"a type that holds itself", EndlessType(), api.ErrLimit},
	}
}

// Type has at most so many arrows above each of its bases, of which there are so many.
func (d *Die) Type(deep, bases int) api.Type {
	if deep == 0 || d.Roll(3) == 0 {
		return Base(d.Roll(bases))
	}
	x := d.Type(deep-1, bases)
	return Arrow(x, d.Type(deep-1, bases))
}
