package auto

import "metaprune/api"

// product goes with both automata at once: a state of it is one of each.
func product(a, b api.Auto) api.Auto {
	out := api.Auto{States: a.States * b.States}
	both := func(s, r int) int { return s*b.States + r }
	for _, m := range a.Moves {
		for _, n := range b.Moves {
			if m.Name != n.Name || len(m.From) != len(n.From) {
				continue
			}
			move := api.Move{Name: m.Name, To: both(m.To, n.To)}
			for i := range m.From {
				move.From = append(move.From, both(m.From[i], n.From[i]))
			}
			out.Moves = append(out.Moves, move)
		}
	}
	for _, s := range lastOnce(a) {
		for _, r := range lastOnce(b) {
			out.Last = append(out.Last, both(s, r))
		}
	}
	return out
}

// sum lays two automata beside each other, the second one's states behind the
// first one's: a term goes with one of them.
func sum(a, b api.Auto) api.Auto {
	out := api.Auto{States: a.States + b.States}
	add := func(x api.Auto, behind int) {
		for _, m := range x.Moves {
			move := api.Move{Name: m.Name, To: behind + m.To}
			for _, s := range m.From {
				move.From = append(move.From, behind+s)
			}
			out.Moves = append(out.Moves, move)
		}
		for _, s := range lastOnce(x) {
			out.Last = append(out.Last, behind+s)
		}
	}
	add(a, 0)
	add(b, a.States)
	return out
}

// lastOnce are the last states, each once: Last may tell one however often.
func lastOnce(a api.Auto) []int {
	var out []int
	last := setOf(a.Last)
	for s := range a.States {
		if last.has(s) {
			out = append(out, s)
		}
	}
	return out
}
