package closure

import (
	"slices"
	"strconv"

	"metaprune/api"
	"metaprune/knots"
)

// classes: the terms there are, by numbers as they come, those below ahead of those
// above, and which of them are made the same.
type classes struct {
	terms   []api.Term
	below   [][]int        // of each term the numbers of those right below it
	class   []int          // of each term
	members [][]int        // of each class
	above   [][]int        // of each class: the terms right above one of its members
	signed  map[string]int // a term, by its symbol and the classes right below it
}

// closed are the classes that equations make of their terms, and of some more; and
// the numbers of these.
func closed(eqs []api.Pair, more ...api.Term) (*classes, []int) {
	k := &classes{signed: map[string]int{}}
	var todo [][2]int
	for _, q := range eqs {
		todo = append(todo, [2]int{k.number(q.Left), k.number(q.Right)})
	}
	var numbers []int
	for _, t := range more {
		numbers = append(numbers, k.number(t))
	}
	k.join(todo)
	return k, numbers
}

// number is a term's: a new one, if it has none. That is asked while each term is
// a class of its own.
func (k *classes) number(t api.Term) int {
	var below []int
	for _, a := range t.Args {
		below = append(below, k.number(a))
	}
	sign := k.sign(t.Name, below)
	if n, ok := k.signed[sign]; ok {
		return n
	}
	n := len(k.terms)
	k.terms = append(k.terms, t)
	k.below = append(k.below, below)
	k.class = append(k.class, n)
	k.members = append(k.members, []int{n})
	k.above = append(k.above, nil)
	k.signed[sign] = n
	for _, b := range below {
		k.noteAbove(b, n)
	}
	return n
}

// noteAbove notes a term right above another one: once, however often that stands
// below it.
func (k *classes) noteAbove(b, n int) {
	if l := k.above[b]; len(l) == 0 || l[len(l)-1] != n {
		k.above[b] = append(l, n)
	}
}

func (k *classes) sign(name string, below []int) string {
	sign := []byte(name)
	for _, b := range below {
		sign = append(sign, ' ')
		sign = strconv.AppendInt(sign, int64(k.class[b]), 10)
	}
	return string(sign)
}

// join makes the two terms of each pair the same, and whatever else becomes the
// same by that.
func (k *classes) join(todo [][2]int) {
	for len(todo) > 0 {
		last := todo[len(todo)-1]
		todo = todo[:len(todo)-1]
		less, more := k.class[last[0]], k.class[last[1]]
		if less == more {
			continue
		}
		if k.size(less) > k.size(more) {
			less, more = more, less
		}
		for _, n := range k.swallow(less, more) {
			sign := k.sign(k.terms[n].Name, k.below[n])
			if other, ok := k.signed[sign]; ok {
				todo = append(todo, [2]int{n, other})
			} else {
				k.signed[sign] = n
			}
		}
	}
}

// size of a class: how much is to do if another one swallows it.
func (k *classes) size(c int) int { return len(k.members[c]) + len(k.above[c]) }

// swallow puts all of one class into another one. It answers the terms right above
// it: they look otherwise now.
func (k *classes) swallow(less, more int) []int {
	for _, n := range k.members[less] {
		k.class[n] = more
	}
	above := k.above[less]
	k.members[more] = append(k.members[more], k.members[less]...)
	k.above[more] = append(k.above[more], above...)
	k.members[less], k.above[less] = nil, nil
	return above
}

// texts of each class, in order.
func (k *classes) texts() [][]string {
	var out [][]string
	for _, members := range k.members {
		var l []string
		for _, n := range members {
			l = append(l, knots.Text(k.terms[n]))
		}
		slices.Sort(l)
		if len(l) > 0 {
			out = append(out, l)
		}
	}
	slices.SortFunc(out, slices.Compare[[]string])
	return out
}
