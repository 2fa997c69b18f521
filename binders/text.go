package binders

import (
	"strconv"
	"strings"

	"metaprune/api"
)

// Text of a lambda term in which no unknowns stand: free names stand for what is
// bound from outside, the last one for the nearest.
func Text(t api.Lam, free []string) string {
	w := writer{free: free}
	w.term(t, 0)
	return w.String()
}

// writer: what is written so far, and the names of what is bound from outside.
type writer struct {
	strings.Builder
	free []string
}

// term writes t, with so many binders around it.
func (w *writer) term(t api.Lam, around int) {
	switch t.Kind {
	case api.Bound:
		w.WriteString(w.name(around - 1 - t.Index))
	case api.Lambda:
		w.WriteByte('\\')
		w.WriteString(w.name(around))
		w.WriteByte('.')
		w.term(t.Subs[0], around+1)
	case api.Apply:
		f, x := t.Subs[0], t.Subs[1]
		w.piece(f, around, f.Kind == api.Lambda)
		w.WriteByte(' ')
		w.piece(x, around, x.Kind == api.Lambda || x.Kind == api.Apply)
	case api.Const:
		w.WriteByte('c')
		w.WriteString(strconv.Itoa(t.Index))
	}
}

// name of what a binder binds, by how many are around that; those from outside are
// counted backwards, from -1 on.
func (w *writer) name(around int) string {
	if around < 0 {
		return w.free[len(w.free)+around]
	}
	return "x" + strconv.Itoa(around)
}

func (w *writer) piece(t api.Lam, around int, inBrackets bool) {
	if !inBrackets {
		w.term(t, around)
		return
	}
	w.WriteByte('(')
	w.term(t, around)
	w.WriteByte(')')
}
