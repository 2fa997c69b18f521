// Package trees: what is alike for all things that have others of their kind below
// them: terms, lambda terms, types.
package trees

// Count is how many knots t has, if below tells those below each. It stops at the
// first one that is more than most, so that it ends soon even on what holds itself.
func Count[T any](t T, below func(T) []T, most int) int { return countOn(t, below, most, 0) }

func countOn[T any](t T, below func(T) []T, most, before int) int {
	n := before + 1
	for _, x := range below(t) {
		if n > most {
			return n
		}
		n = countOn(x, below, most, n)
	}
	return n
}

// Same: are two alike, knot by knot?
func Same[T any](a, b T, below func(T) []T, alike func(a, b T) bool) bool {
	x, y := below(a), below(b)
	if len(x) != len(y) || !alike(a, b) {
		return false
	}
	for i := range x {
		if !Same(x[i], y[i], below, alike) {
			return false
		}
	}
	return true
}
