package above

func (r ranks) heavier(a, b item) bool {
	if !hasAllOf(a, b) {
		return false
	}
	if a.size != b.size {
		return a.size > b.size
	}
	if a.isVariable() || b.isVariable() {
		return false
	}
	if symbols := r.compare(a, b); symbols != 0 {
		return symbols > 0
	}
	x, y, ok := firstUnlike(a, b)
	return ok && r.heavier(x, y)
}

// hasAllOf: does each variable stand in a at least as often as in b?
func hasAllOf(a, b item) bool {
	more := map[string]int{}
	tally(more, a, 1)
	tally(more, b, -1)
	for _, n := range more {
		if n < 0 {
			return false
		}
	}
	return true
}

// tally counts each variable of x, by so many a time.
func tally(times map[string]int, x item, by int) {
	if x.isVariable() {
		times[x.name] += by
	}
	for _, a := range x.args {
		tally(times, a, by)
	}
}
