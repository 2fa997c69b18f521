package knots

import (
	"strconv"

	"metaprune/api"
)

// Namer gives new names, Z1, Z2, .. as they are asked for: to the same thing,
// told by its text, always the same one.
func Namer() func(text string) string {
	numbers := map[string]int{}
	return func(text string) string {
		n, ok := numbers[text]
		if !ok {
			n = len(numbers) + 1
			numbers[text] = n
		}
		return "Z" + strconv.Itoa(n)
	}
}

// Rename is a copy of t in which each variable has the name that named gives it.
func Rename(t api.Term, named func(name string) string) api.Term {
	if IsVariable(t.Name) {
		return api.Term{Name: named(t.Name)}
	}
	out := api.Term{Name: t.Name}
	for _, a := range t.Args {
		out.Args = append(out.Args, Rename(a, named))
	}
	return out
}
