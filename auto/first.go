package auto

import (
	"metaprune/api"
	"metaprune/knots"
)

// found: a term, how many knots it has, and its text; of no knots: none.
type found struct {
	term api.Term
	size int
	text string
}

// isAhead: has it fewer knots, or of as many the first text? None is behind all.
func (f found) isAhead(g found) bool {
	switch {
	case f.size == 0 || g.size == 0:
		return f.size > g.size
	case f.size != g.size:
		return f.size < g.size
	}
	return f.text < g.text
}

// firstsOf is of each state the first term that may end in it, of at most MaxGrown
// knots. Below it stand first ones, too: of two terms of as many knots the text of
// one begins the other's just if both are leaves, and then what stands behind them,
// a comma or a bracket, comes ahead of all signs of names.
func firstsOf(a api.Auto) []found {
	firsts := make([]found, a.States)
	for news := true; news; {
		news = false
		for _, m := range a.Moves {
			if f := firstBy(m, firsts); f.isAhead(firsts[m.To]) {
				firsts[m.To] = f
				news = true
			}
		}
	}
	return firsts
}

// firstBy is the first term by a move; none, if there is none of those below it, or
// it would be too great.
func firstBy(m api.Move, firsts []found) found {
	size := 1
	t := api.Term{Name: m.Name}
	for _, s := range m.From {
		if firsts[s].size == 0 {
			return found{}
		}
		size += firsts[s].size
		t.Args = append(t.Args, firsts[s].term)
	}
	if size > api.MaxGrown {
		return found{}
	}
	return found{t, size, knots.Text(t)}
}
