package auto

import (
	"slices"

	"metaprune/api"
)

// kinds: all sets of states in which terms end, and which of them are not alike.
type kinds struct {
	table
	sets  []set
	apart [1 << fewStates][1 << fewStates]bool
}

func kindsOf(a api.Auto) *kinds {
	k := &kinds{table: tableOf(a.Moves)}
	k.sets = k.ends()
	last := setOf(a.Last)
	for _, s := range k.sets {
		for _, r := range k.sets {
			k.apart[s][r] = (s&last != 0) != (r&last != 0)
		}
	}
	for k.pass() {
	}
	return k
}

// pass tells more sets apart by those that are apart: did it find some?
func (k *kinds) pass() bool {
	news := false
	for _, moves := range k.moves {
		for below := range lists(k.sets, len(moves[0].From)) {
			for place := range below {
				news = k.tell(moves, below, place) || news
			}
		}
	}
	return news
}

// tell holds the set at a place against all others there: it is apart from those
// with which a symbol goes to a set that is apart.
func (k *kinds) tell(moves []api.Move, below []set, place int) bool {
	news := false
	one, here := end(moves, below), below[place]
	others := slices.Clone(below)
	for _, s := range k.sets {
		others[place] = s
		if !k.apart[here][s] && k.apart[one][end(moves, others)] {
			k.apart[here][s], k.apart[s][here] = true, true
			news = true
		}
	}
	return news
}

// count: how many sets are there, none alike another one?
func (k *kinds) count() int {
	n := 0
	for i, s := range k.sets {
		alike := func(r set) bool { return !k.apart[s][r] }
		if !slices.ContainsFunc(k.sets[:i], alike) {
			n++
		}
	}
	return n
}
