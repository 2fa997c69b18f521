package term

import (
	"metaprune/api"
	"metaprune/knots"
	"metaprune/texts"
)

// Parse reads a term.
func Parse(text string) (t api.Term, e api.Errno) {
	defer func() {
		if why := recover(); why != nil {
			t, e = api.Term{}, why.(api.Errno)
		}
	}()
	r := reader{texts.New(text)}
	t = r.term()
	r.End()
	return t, api.OK
}

type reader struct{ texts.Reader }

func (r *reader) term() api.Term {
	t := api.Term{Name: r.Name()}
	r.Knot()
	if !r.Take('(') {
		return t
	}
	if knots.IsVariable(t.Name) {
		panic(api.ErrForm)
	}
	for {
		t.Args = append(t.Args, r.term())
		if r.Take(')') {
			return t
		}
		r.Ask(',')
	}
}
