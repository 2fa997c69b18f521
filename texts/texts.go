// Package texts: how texts of terms are read: from the front, sign by sign.
package texts

import (
	"metaprune/api"
	"metaprune/knots"
)

// Reader: a text, how far it is read, and how many knots were in that. It throws
// why it refuses the text (an api.Errno), from however deep its reader stands: so
// none of the functions in between has to hand an error on. Who makes one catches
// that.
type Reader struct {
	text  string
	next  int
	knots int
}

// New is a reader at a text's front.
func New(text string) Reader {
	if len(text) > api.MaxText {
		panic(api.ErrLimit)
	}
	return Reader{text: text}
}

// Name reads a name.
func (r *Reader) Name() string {
	from := r.next
	for !r.atEnd() && knots.IsSign(r.text[r.next]) {
		r.next++
	}
	name := r.text[from:r.next]
	if name == "" {
		r.Refuse()
	}
	if !knots.IsName(name) {
		panic(api.ErrName)
	}
	return name
}

// Take goes past a sign, if it is the next one.
func (r *Reader) Take(sign byte) bool {
	if r.atEnd() || r.text[r.next] != sign {
		return false
	}
	r.next++
	return true
}

// Ask goes past a sign that must be the next one.
func (r *Reader) Ask(sign byte) {
	if !r.Take(sign) {
		r.Refuse()
	}
}

// Knot counts one knot more.
func (r *Reader) Knot() {
	r.knots++
	if r.knots > api.MaxNodes {
		panic(api.ErrLimit)
	}
}

// Refuse says what is wrong where what must stand next doesn't.
func (r *Reader) Refuse() {
	if r.atEnd() {
		panic(api.ErrShort)
	}
	panic(api.ErrWord)
}

// End refuses a text of which something is left.
func (r *Reader) End() {
	if !r.atEnd() {
		panic(api.ErrWord)
	}
}

func (r *Reader) atEnd() bool { return r.next == len(r.text) }
