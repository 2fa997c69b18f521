package house

import (
	"strconv"
	"strings"

	"metaprune/api"
	"metaprune/arrows"
	"metaprune/binders"
	"metaprune/knots"
)

// done is told by lines that change the book.
const done = "ok"

// What a layer answered comes in below as it is, its error, too: that goes on beside
// the text, which nobody is told then. A term that came out may have more knots than
// the layer's own Text takes: so its text is made without asking for that.

func yesOrNo(yes bool, e api.Errno) (string, api.Errno) {
	if yes {
		return "yes", e
	}
	return "no", e
}

func termText(t api.Term, e api.Errno) (string, api.Errno) { return knots.Text(t), e }

func lamText(t api.Lam, e api.Errno) (string, api.Errno) { return binders.Text(t, nil), e }

func typeText(t api.Type, e api.Errno) (string, api.Errno) { return arrows.Text(t), e }

func termBySteps(t api.Term, n int, e api.Errno) (string, api.Errno) {
	return strconv.Itoa(n) + " " + knots.Text(t), e
}

func lamBySteps(t api.Lam, n int, e api.Errno) (string, api.Errno) {
	return strconv.Itoa(n) + " " + binders.Text(t, nil), e
}

func bindings(l []api.Bind, e api.Errno) (string, api.Errno) {
	return listed(l, func(x api.Bind) string { return x.Name + ":" + knots.Text(x.Term) }), e
}

func pairs(l []api.Pair, e api.Errno) (string, api.Errno) {
	return listed(l, func(x api.Pair) string { return knots.Text(x.Left) + ">" + knots.Text(x.Right) }), e
}

func classes(l [][]string, e api.Errno) (string, api.Errno) {
	return listed(l, func(texts []string) string { return strings.Join(texts, "=") }), e
}

func names(l []string, e api.Errno) (string, api.Errno) {
	return listed(l, func(name string) string { return name }), e
}

// listed is a sign, then of each of a list its text behind a blank.
func listed[T any](l []T, text func(T) string) string {
	var b strings.Builder
	b.WriteByte('=')
	for _, x := range l {
		b.WriteByte(' ')
		b.WriteString(text(x))
	}
	return b.String()
}
