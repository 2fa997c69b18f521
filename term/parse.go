package term

import (
	"metaprune/api"
	"metaprune/knots"
)

// Parse reads a term.
func Parse(text string) (t api.Term, e api.Errno) {
	// The reader throws why it refuses the text from however deep it stands:
	// so none of its functions has to hand an error on.
	defer func() {
		if why := recover(); why != nil {
			t, e = api.Term{}, why.(api.Errno)
		}
	}()
	if len(text) > api.MaxText {
		panic(api.ErrLimit)
	}
	r := reader{text: text}
	t = r.term()
	if !r.atEnd() {
		panic(api.ErrWord)
	}
	return t, api.OK
}

// reader: a text, how far it is read, and how many knots were in that.
type reader struct {
	text  string
	next  int
	knots int
}

func (r *reader) term() api.Term {
	t := api.Term{Name: r.name()}
	r.knots++
	if r.knots > api.MaxNodes {
		panic(api.ErrLimit)
	}
	if !r.take('(') {
		return t
	}
	if knots.IsVariable(t.Name) {
		panic(api.ErrForm)
	}
	for {
		t.Args = append(t.Args, r.term())
		if r.take(')') {
			return t
		}
		if !r.take(',') {
			panic(r.refusal())
		}
	}
}

func (r *reader) name() string {
	from := r.next
	for !r.atEnd() && knots.IsSign(r.text[r.next]) {
		r.next++
	}
	name := r.text[from:r.next]
	if name == "" {
		panic(r.refusal())
	}
	if !knots.IsName(name) {
		panic(api.ErrName)
	}
	return name
}

// take goes past a sign, if it is the next one.
func (r *reader) take(sign byte) bool {
	if r.atEnd() || r.text[r.next] != sign {
		return false
	}
	r.next++
	return true
}

// refusal: what is wrong where what must stand next doesn't.
func (r *reader) refusal() api.Errno {
	if r.atEnd() {
		return api.ErrShort
	}
	return api.ErrWord
}

func (r *reader) atEnd() bool { return r.next == len(r.text) }
