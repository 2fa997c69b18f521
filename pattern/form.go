package pattern

import (
	"slices"

	"metaprune/api"
)

// notSeen: an unknown that stands nowhere yet, so nothing says how many things it takes.
const notSeen = -1

// aritiesOf tells to how many things each unknown is applied (one that stands nowhere:
// to none); false, unless all goals are patterns.
func aritiesOf(metas int, goals []api.Goal) ([]int, bool) {
	many := slices.Repeat([]int{notSeen}, metas)
	for _, g := range goals {
		if !isPattern(g.Left, many) || !isPattern(g.Right, many) {
			return nil, false
		}
	}
	for i, n := range many {
		many[i] = max(n, 0)
	}
	return many, true
}

// isPattern writes down of each unknown that it sees first how many things it takes.
func isPattern(t api.Lam, many []int) bool {
	head, args := parted(t)
	if head.Kind == api.Meta {
		return areThings(args) && takes(many, head.Index, len(args))
	}
	if head.Kind == api.Lambda {
		return len(args) == 0 && isPattern(head.Subs[0], many)
	}
	for _, x := range args {
		if !isPattern(x, many) {
			return false
		}
	}
	return true
}

// parted is what stands at the front of a row of Applies, and all to which it is
// applied.
func parted(t api.Lam) (api.Lam, []api.Lam) {
	var args []api.Lam
	for ; t.Kind == api.Apply; t = t.Subs[0] {
		args = append(args, t.Subs[1])
	}
	slices.Reverse(args)
	return t, args
}

// areThings: is all of it bound, no two the same?
func areThings(l []api.Lam) bool {
	for i, x := range l {
		isX := func(y api.Lam) bool { return y.Index == x.Index }
		if x.Kind != api.Bound || slices.ContainsFunc(l[:i], isX) {
			return false
		}
	}
	return true
}

func takes(many []int, number, args int) bool {
	if many[number] == notSeen {
		many[number] = args
	}
	return many[number] == args
}
