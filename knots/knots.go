// Package knots: what several layers do with terms that were asked already
// whether they may be. Such terms may have more knots than one that is given:
// so nothing here asks how many there are, but where it says so.
package knots

import (
	"cmp"
	"slices"
	"strings"

	"metaprune/api"
)

// IsName: is a text a name, a variable's or a symbol's?
func IsName(s string) bool {
	if len(s) < 1 || len(s) > api.MaxName || isDigit(s[0]) {
		return false
	}
	for i := range len(s) {
		if !isLetter(s[i]) && !isDigit(s[i]) {
			return false
		}
	}
	return true
}

// IsVariable tells a variable's name from a symbol's.
func IsVariable(name string) bool { return name != "" && isCapital(name[0]) }

// IsSign: may a byte stand in a name?
func IsSign(c byte) bool { return isLetter(c) || isDigit(c) }

func isCapital(c byte) bool { return 'A' <= c && c <= 'Z' }

func isLetter(c byte) bool { return 'a' <= c && c <= 'z' || isCapital(c) }

func isDigit(c byte) bool { return '0' <= c && c <= '9' }

// Same: are two terms the same, knot by knot?
func Same(a, b api.Term) bool {
	if a.Name != b.Name || len(a.Args) != len(b.Args) {
		return false
	}
	for i := range a.Args {
		if !Same(a.Args[i], b.Args[i]) {
			return false
		}
	}
	return true
}

// Copy is a term in memory of its own, since what is handed out is the caller's.
func Copy(t api.Term) api.Term {
	out := api.Term{Name: t.Name}
	for _, a := range t.Args {
		out.Args = append(out.Args, Copy(a))
	}
	return out
}

// Text of a term: no two that are not the same have one.
func Text(t api.Term) string {
	var b strings.Builder
	write(&b, t)
	return b.String()
}

func write(b *strings.Builder, t api.Term) {
	b.WriteString(t.Name)
	if len(t.Args) == 0 {
		return
	}
	b.WriteByte('(')
	for i, a := range t.Args {
		if i > 0 {
			b.WriteByte(',')
		}
		write(b, a)
	}
	b.WriteByte(')')
}

// Holds: does a variable stand in a term?
func Holds(t api.Term, name string) bool {
	return t.Name == name || slices.ContainsFunc(t.Args, func(a api.Term) bool { return Holds(a, name) })
}

// IsOpen: does some variable stand in a term?
func IsOpen(t api.Term) bool { return IsVariable(t.Name) || slices.ContainsFunc(t.Args, IsOpen) }

// InOrder takes bindings out of a map, in memory of their own: what stands for
// two variables may be parts of one term.
func InOrder(stands map[string]api.Term) []api.Bind {
	var out []api.Bind
	for name, x := range stands {
		out = append(out, api.Bind{Name: name, Term: Copy(x)})
	}
	slices.SortFunc(out, func(a, b api.Bind) int { return cmp.Compare(a.Name, b.Name) })
	return out
}
