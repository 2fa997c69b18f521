package auto

import (
	"iter"

	"metaprune/api"
)

// set of states: of each the bit of its number.
type set uint

func setOf(states []int) set {
	var out set
	for _, s := range states {
		out |= 1 << s
	}
	return out
}

func (s set) has(state int) bool { return s>>state&1 != 0 }

// symbol: with another number of terms below it is another one.
type symbol struct {
	name  string
	below int
}

// table: moves, those of one symbol together, in lists of which none is empty.
type table struct {
	numbers map[symbol]int
	moves   [][]api.Move
}

func tableOf(moves []api.Move) table {
	t := table{numbers: map[symbol]int{}}
	for _, m := range moves {
		s := symbol{m.Name, len(m.From)}
		n, ok := t.numbers[s]
		if !ok {
			n = len(t.moves)
			t.numbers[s] = n
			t.moves = append(t.moves, nil)
		}
		t.moves[n] = append(t.moves[n], m)
	}
	return t
}

// endOf: in which states may a term end?
func (t table) endOf(x api.Term) set {
	n, ok := t.numbers[symbol{x.Name, len(x.Args)}]
	if !ok {
		return 0
	}
	var below []set
	for _, a := range x.Args {
		below = append(below, t.endOf(a))
	}
	return end(t.moves[n], below)
}

// end: in which states may a term of a symbol with these moves end, if those below
// it may end in these?
func end(moves []api.Move, below []set) set {
	var out set
	for _, m := range moves {
		if mayGo(m, below) {
			out |= 1 << m.To
		}
	}
	return out
}

func mayGo(m api.Move, below []set) bool {
	for i, s := range m.From {
		if !below[i].has(s) {
			return false
		}
	}
	return true
}

// ends are all sets of states in which terms of the moves' symbols end, of at most
// twice fewStates states.
func (t table) ends() []set {
	var all []set
	var seen [1 << (2 * fewStates)]bool
	for before := -1; before < len(all); {
		before = len(all)
		for _, moves := range t.moves {
			for below := range lists(all, len(moves[0].From)) {
				s := end(moves, below)
				if !seen[s] {
					seen[s] = true
					all = append(all, s)
				}
			}
		}
	}
	return all
}

// lists goes through all lists of so many of these sets. The memory of a list is
// used again for the next one: who keeps it copies it.
func lists(of []set, long int) iter.Seq[[]set] {
	return func(yield func([]set) bool) { listsOn(of, make([]set, long), 0, yield) }
}

// listsOn goes on where the sets ahead of a place are chosen.
func listsOn(of, l []set, place int, yield func([]set) bool) bool {
	if place == len(l) {
		return yield(l)
	}
	for _, s := range of {
		l[place] = s
		if !listsOn(of, l, place+1, yield) {
			return false
		}
	}
	return true
}
