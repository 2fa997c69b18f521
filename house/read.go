package house

import (
	"strconv"
	"strings"

	"metaprune/api"
	"metaprune/lambda"
	"metaprune/term"
)

// mostNumber: the greatest that three digits tell.
const mostNumber = 999

// given: what the words of a line tell; words are those that are taken as they are.
type given struct {
	words  []string
	number int
	terms  []api.Term
	lam    api.Lam
}

// takes: may so many words stand behind the first one?
func (c command) takes(many int) bool {
	switch {
	case strings.HasSuffix(c.asks, "."):
		return many >= len(c.asks)-1
	case strings.HasSuffix(c.asks, "L"):
		return many >= len(c.asks)
	}
	return many == len(c.asks)
}

// read reads the words behind the first one, in order, if there are as many as it
// takes. Terms stand last everywhere: so the first one's letter reads them all.
func (c command) read(words []string) (g given, e api.Errno) {
	for i := range len(c.asks) {
		switch c.asks[i] {
		case 'N':
			g.number, e = number(words[i])
		case 'T':
			g.terms, e = terms(words[i:]...)
		case 'L':
			g.lam, e = lambda.Parse(strings.Join(words[i:], " "), nil)
		case 'V', '.':
			g.words = words[i:]
		}
		if e != api.OK {
			return given{}, e
		}
	}
	return g, api.OK
}

func terms(words ...string) ([]api.Term, api.Errno) {
	var l []api.Term
	for _, w := range words {
		t, e := term.Parse(w)
		if e != api.OK {
			return nil, e
		}
		l = append(l, t)
	}
	return l, api.OK
}

// number holds the word against what it was read as: a number has one way to be told.
func number(word string) (int, api.Errno) {
	n, err := strconv.Atoi(word)
	if err != nil || n < 0 || n > mostNumber || strconv.Itoa(n) != word {
		return 0, api.ErrWord
	}
	return n, api.OK
}
