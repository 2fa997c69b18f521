package above

// answer: is the first of two terms above the second?
type answer struct{ above bool }

// paths: what was asked already, by the numbers of both terms. The same two are
// come to on very many ways: without that a call would hardly end.
type paths struct {
	ranks ranks
	asked map[[2]int]answer
}

func (p paths) above(a, b item) bool {
	both := [2]int{a.number, b.number}
	known, ok := p.asked[both]
	if !ok {
		known = answer{p.ask(a, b)}
		p.asked[both] = known
	}
	return known.above
}

func (p paths) ask(a, b item) bool {
	if a.isVariable() {
		return false
	}
	if p.below(a, b) {
		return true
	}
	if b.isVariable() {
		return false
	}
	symbols := p.ranks.compare(a, b)
	if symbols < 0 || !p.aboveAllOf(a, b.args) {
		return false
	}
	if symbols > 0 {
		return true
	}
	x, y, ok := firstUnlike(a, b)
	return ok && p.above(x, y)
}

// below: is a term just below a the same as b, or above it?
func (p paths) below(a, b item) bool {
	for _, x := range a.args {
		if x.number == b.number || p.above(x, b) {
			return true
		}
	}
	return false
}

func (p paths) aboveAllOf(a item, l []item) bool {
	for _, y := range l {
		if !p.above(a, y) {
			return false
		}
	}
	return true
}
