package lambda

import (
	"slices"
	"strconv"

	"metaprune/api"
	"metaprune/texts"
)

// Parse reads a term.
func Parse(text string, free []string) (t api.Lam, e api.Errno) {
	defer func() {
		if why := recover(); why != nil {
			t, e = api.Lam{}, why.(api.Errno)
		}
	}()
	if e := Names(free); e != api.OK {
		panic(e)
	}
	r := reader{texts.New(text), slices.Clone(free)}
	t = r.term()
	r.End()
	return t, api.OK
}

// reader: a text, and the names of what is bound around where it is read, from the
// outmost on.
type reader struct {
	texts.Reader
	names []string
}

func (r *reader) term() api.Lam {
	if r.Take('\\') {
		return r.binder()
	}
	t := r.piece()
	for r.Take(' ') {
		r.Knot()
		t = api.Lam{Kind: api.Apply, Subs: []api.Lam{t, r.piece()}}
	}
	return t
}

// binder reads what stands behind the sign of a binder.
func (r *reader) binder() api.Lam {
	r.Knot()
	r.names = append(r.names, r.Name())
	r.Ask('.')
	t := api.Lam{Kind: api.Lambda, Subs: []api.Lam{r.term()}}
	r.names = r.names[:len(r.names)-1]
	return t
}

func (r *reader) piece() api.Lam {
	if r.Take('(') {
		t := r.term()
		r.Ask(')')
		return t
	}
	name := r.Name()
	r.Knot()
	return r.named(name)
}

// named is what a name stands for. Those of binders stand behind those from outside,
// the nearest one's last.
func (r *reader) named(name string) api.Lam {
	for i, other := range slices.Backward(r.names) {
		if other == name {
			return api.Lam{Kind: api.Bound, Index: len(r.names) - 1 - i}
		}
	}
	n, ok := constant(name)
	if !ok {
		panic(api.ErrOpen)
	}
	return api.Lam{Kind: api.Const, Index: n}
}

// constant is the number of one, if a name is one's.
func constant(name string) (int, bool) {
	n, err := strconv.Atoi(name[1:])
	ok := err == nil && n < api.MaxList && name == "c"+strconv.Itoa(n)
	return n, ok
}
