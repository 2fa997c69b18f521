package sample

import (
	"slices"
	"strconv"

	"metaprune/api"
)

// Named: a lambda term with names instead of numbers, as it is written by hand: a
// name alone, a name and the term that it is bound in, or two terms.
type Named struct {
	Name string
	Subs []Named
}

// WithNames gives each binder of t a name that no other has, and that none of those
// from outside has. What they count is handed on, so that several terms have other
// names, too.
func WithNames(t api.Lam, outside []string, count *int) Named {
	switch t.Kind {
	case api.Bound:
		return Named{Name: outside[len(outside)-1-t.Index]}
	case api.Lambda:
		*count++
		name := "v" + strconv.Itoa(*count)
		inside := append(slices.Clone(outside), name)
		return Named{name, []Named{WithNames(t.Subs[0], inside, count)}}
	case api.Apply:
		f := WithNames(t.Subs[0], outside, count)
		return Named{"", []Named{f, WithNames(t.Subs[1], outside, count)}}
	}
	return Named{Name: "#" + strconv.Itoa(t.Kind) + strconv.Itoa(t.Index)}
}

// WithoutNames is the lambda term of one with names.
func WithoutNames(t Named, outside []string) api.Lam {
	switch len(t.Subs) {
	case 1:
		return Binder(WithoutNames(t.Subs[0], append(slices.Clone(outside), t.Name)))
	case 2:
		return Applied(WithoutNames(t.Subs[0], outside), WithoutNames(t.Subs[1], outside))
	}
	for i, name := range slices.Backward(outside) {
		if name == t.Name {
			return Bound(len(outside) - 1 - i)
		}
	}
	kind := int(t.Name[1] - '0')
	index, _ := strconv.Atoi(t.Name[2:])
	return api.Lam{Kind: kind, Index: index}
}

// Replace is t with x wherever a name stands. No binder may have that name, nor one
// that stands in x.
func (t Named) Replace(name string, x Named) Named {
	if len(t.Subs) == 0 && t.Name == name {
		return x
	}
	out := Named{Name: t.Name}
	for _, s := range t.Subs {
		out.Subs = append(out.Subs, s.Replace(name, x))
	}
	return out
}

// Has: does a name stand in t (a binder's own doesn't count)?
func (t Named) Has(name string) bool {
	if len(t.Subs) == 0 {
		return t.Name == name
	}
	return slices.ContainsFunc(t.Subs, func(s Named) bool { return s.Has(name) })
}

// Count is how many knots t has.
func (t Named) Count() int {
	n := 1
	for _, s := range t.Subs {
		n += s.Count()
	}
	return n
}

// Outside are so many names for what is bound from outside.
func Outside(many int) []string {
	var l []string
	for i := range many {
		l = append(l, "o"+strconv.Itoa(i))
	}
	return l
}
