package work

import (
	"sync"
	"sync/atomic"

	"metaprune/api"
	"metaprune/knots"
	"metaprune/rewrite"
)

// outcome: what came of the term at a place of the list.
type outcome struct {
	place, steps int
	text         string
	e            api.Errno
}

// desk: what all hands have before them. They read rules and terms, and write
// into neither: so just the next number is taken atomically.
type desk struct {
	rules []api.Pair
	terms []api.Term
	most  int
	next  atomic.Int64
	done  chan outcome
}

// outcomes are those of all terms, in whatever order they came. There is room for
// all of them, so that no hand waits, and every one has ended when they are read.
func outcomes(rules []api.Pair, terms []api.Term, most, hands int) <-chan outcome {
	d := desk{rules: rules, terms: terms, most: most, done: make(chan outcome, len(terms))}
	var busy sync.WaitGroup
	for range hands {
		busy.Add(1)
		go func() {
			defer busy.Done()
			d.workOff()
		}()
	}
	busy.Wait()
	close(d.done)
	return d.done
}

// workOff is what one hand does: it takes the next term, till there is none.
func (d *desk) workOff() {
	for {
		place := int(d.next.Add(1)) - 1
		if place >= len(d.terms) {
			return
		}
		d.done <- d.outcome(place)
	}
}

func (d *desk) outcome(place int) outcome {
	x, n, e := rewrite.Inner(d.rules, d.terms[place], d.most)
	if e != api.OK {
		return outcome{place: place, e: e}
	}
	// What comes out may have more knots than a term that term.Text takes.
	return outcome{place: place, steps: n, text: knots.Text(x)}
}
