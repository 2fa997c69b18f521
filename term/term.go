// Package term: terms of symbols and variables: see the document's chapter.
package term

import (
	"slices"

	"metaprune/api"
	"metaprune/knots"
)

// Check says whether a term may be.
func Check(t api.Term) api.Errno {
	if knots.Count(t, api.MaxNodes) > api.MaxNodes {
		return api.ErrLimit
	}
	return checkKnots(t)
}

func checkKnots(t api.Term) api.Errno {
	if !knots.IsName(t.Name) {
		return api.ErrName
	}
	if knots.IsVariable(t.Name) && len(t.Args) > 0 {
		return api.ErrForm
	}
	for _, a := range t.Args {
		if e := checkKnots(a); e != api.OK {
			return e
		}
	}
	return api.OK
}

// Text of a term that may be.
func Text(t api.Term) (string, api.Errno) {
	if e := Check(t); e != api.OK {
		return "", e
	}
	return knots.Text(t), api.OK
}

// Names are the variables, as they come first.
func Names(t api.Term) ([]string, api.Errno) {
	if e := Check(t); e != api.OK {
		return nil, e
	}
	return addNames(nil, t), api.OK
}

func addNames(names []string, t api.Term) []string {
	if knots.IsVariable(t.Name) && !slices.Contains(names, t.Name) {
		names = append(names, t.Name)
	}
	for _, a := range t.Args {
		names = addNames(names, a)
	}
	return names
}
