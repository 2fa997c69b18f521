// Package arrows: types that were asked already whether they may be, or that came
// out: such may have more knots than one that is given.
package arrows

import (
	"strconv"
	"strings"

	"metaprune/api"
)

// Text of a type.
func Text(t api.Type) string {
	var b strings.Builder
	write(&b, t)
	return b.String()
}

func write(b *strings.Builder, t api.Type) {
	if len(t.Subs) == 0 {
		b.WriteByte('a')
		b.WriteString(strconv.Itoa(t.Base))
		return
	}
	if len(t.Subs[0].Subs) == 0 {
		write(b, t.Subs[0])
	} else {
		b.WriteByte('(')
		write(b, t.Subs[0])
		b.WriteByte(')')
	}
	b.WriteByte('>')
	write(b, t.Subs[1])
}
