// Package knots: what several layers do with terms that were asked already
// whether they may be. Such terms may have more knots than one that is given:
// so nothing here asks how many there are, but where it says so.
package knots

import "metaprune/api"

// IsName: is a text a name, a variable's or a symbol's?
func IsName(s string) bool {
	if len(s) < 1 || len(s) > api.MaxName || isDigit(s[0]) {
		return false
	}
	for i := range len(s) {
		if !isLetter(s[i]) && !isDigit(s[i]) {
			return false
		}
	}
	return true
}

// IsVariable tells a variable's name from a symbol's.
func IsVariable(name string) bool { return name != "" && isCapital(name[0]) }

// IsSign: may a byte stand in a name?
func IsSign(c byte) bool { return isLetter(c) || isDigit(c) }

func isCapital(c byte) bool { return 'A' <= c && c <= 'Z' }

func isLetter(c byte) bool { return 'a' <= c && c <= 'z' || isCapital(c) }

func isDigit(c byte) bool { return '0' <= c && c <= '9' }

// Same: are two terms the same, knot by knot?
func Same(a, b api.Term) bool {
	if a.Name != b.Name || len(a.Args) != len(b.Args) {
		return false
	}
	for i := range a.Args {
		if !Same(a.Args[i], b.Args[i]) {
			return false
		}
	}
	return true
}

// Copy is a term in memory of its own, since what is handed out is the caller's.
func Copy(t api.Term) api.Term {
	out := api.Term{Name: t.Name}
	for _, a := range t.Args {
		out.Args = append(out.Args, Copy(a))
	}
	return out
}
