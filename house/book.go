package house

import (
	"strconv"
	"strings"

	"metaprune/api"
)

// book: what was answered so far, and what lines have put into it for those to come.
type book struct {
	strings.Builder
	rules, equations []api.Pair
	row              []string
}

// answer does what a line asks for, and is what is told of it.
func (b *book) answer(line string) string {
	words := strings.Split(line, " ")
	c, ok := table[words[0]]
	if !ok || !c.takes(len(words)-1) {
		return "bad"
	}
	g, e := c.read(words[1:])
	if e != api.OK {
		return wrong(e)
	}
	text, e := c.do(b, g)
	if e != api.OK {
		return wrong(e)
	}
	return text
}

func wrong(e api.Errno) string { return "error " + strconv.Itoa(int(e)) }
