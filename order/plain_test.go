package order

import (
	"slices"
	"strings"
	"testing"

	"metaprune/api"
	"metaprune/sample"
)

func isVar(t api.Term) bool { return t.Name[0] < 'a' }

func same(a, b api.Term) bool { return textOf(a) == textOf(b) }

// greater: F1, word by word.
func greater(row []string, a, b api.Term) bool {
	i, j := slices.Index(row, a.Name), slices.Index(row, b.Name)
	switch {
	case i != j:
		return i > j
	case a.Name != b.Name:
		return strings.Compare(a.Name, b.Name) > 0
	}
	return len(a.Args) > len(b.Args)
}

// plainPath: F2, word by word, as slow as that may be.
func plainPath(row []string, a, b api.Term) bool {
	if isVar(a) {
		return false
	}
	for _, x := range a.Args {
		if same(x, b) || plainPath(row, x, b) {
			return true
		}
	}
	if isVar(b) || greater(row, b, a) {
		return false
	}
	for _, y := range b.Args {
		if !plainPath(row, a, y) {
			return false
		}
	}
	if greater(row, a, b) {
		return true
	}
	for i := range a.Args {
		if !same(a.Args[i], b.Args[i]) {
			return plainPath(row, a.Args[i], b.Args[i])
		}
	}
	return false
}

func times(t api.Term, name string) int {
	n := 0
	if t.Name == name {
		n++
	}
	for _, a := range t.Args {
		n += times(a, name)
	}
	return n
}

// plainWeight: F3, word by word.
func plainWeight(row []string, a, b api.Term) bool {
	for _, name := range []string{"X", "Y", "Z"} {
		if times(b, name) > times(a, name) {
			return false
		}
	}
	switch n, m := sample.Count(a), sample.Count(b); {
	case n > m:
		return true
	case n < m:
		return false
	case isVar(a) || isVar(b):
		return false
	case greater(row, a, b):
		return true
	case greater(row, b, a):
		return false
	}
	for i := range a.Args {
		if !same(a.Args[i], b.Args[i]) {
			return plainWeight(row, a.Args[i], b.Args[i])
		}
	}
	return false
}

type kind struct {
	what  string
	call  func(row []string, a, b api.Term) (bool, api.Errno)
	plain func(row []string, a, b api.Term) bool
}

func orders() []kind {
	return []kind{{"Path", Path, plainPath}, {"Weight", Weight, plainWeight}}
}

func rows() [][]string {
	return [][]string{nil, {"a", "b", "h", "k", "f", "g"}, {"g", "f", "k"}, {"f", "a", "g", "b"}, {"h"}}
}

// cut gives some knots another number of terms below, so that symbols of one
// name are others.
func cut(d *sample.Die, t api.Term) api.Term {
	for i := range t.Args {
		t.Args[i] = cut(d, t.Args[i])
	}
	if len(t.Args) > 0 && d.Roll(5) == 0 {
		t.Args = t.Args[1:]
	}
	return t
}

func TestF2F3WordByWord(t *testing.T) {
	d := sample.Die(3)
	for _, o := range orders() {
		said := 0
		for i := range 12000 {
			row := rows()[i%len(rows())]
			a, b := d.Term(4, "X", "Y", "a", "b"), d.Term(3, "X", "Y", "a", "b")
			if i%3 == 0 {
				a, b = cut(&d, a), cut(&d, b)
			}
			if i%4 == 0 {
				a, b = b, a
			}
			got := asked(t, o.call, row, a, b)
			if got != o.plain(row, a, b) {
				t.Fatalf("%s, row %v: %s and %s: %v", o.what, row, textOf(a), textOf(b), got)
			}
			if got {
				said++
			}
		}
		if said < 1000 {
			t.Errorf("%s says yes just %d times", o.what, said)
		}
	}
}

// put is t with x for X and y for Y.
func put(t, x, y api.Term) api.Term {
	switch t.Name {
	case "X":
		return x
	case "Y":
		return y
	}
	out := knot(t.Name)
	for _, a := range t.Args {
		out.Args = append(out.Args, put(a, x, y))
	}
	return out
}

// What is above stays above, whatever stands for variables, wherever it stands;
// a term is above all within it, and not above itself.
func TestF2F3OrdersOfTerms(t *testing.T) {
	d := sample.Die(5)
	for _, o := range orders() {
		for i := range 4000 {
			row := rows()[i%len(rows())]
			a, b := d.Term(3, "X", "Y", "a"), d.Term(2, "X", "Y", "a")
			x, y := d.Term(2, "X", "Y", "b"), d.Term(2, "X", "Y", "b")
			if asked(t, o.call, row, a, a) {
				t.Fatalf("%s, row %v: %s is above itself", o.what, row, textOf(a))
			}
			for _, below := range a.Args {
				if !asked(t, o.call, row, a, below) {
					t.Fatalf("%s, row %v: %s is not above %s", o.what, row, textOf(a), textOf(below))
				}
			}
			if !asked(t, o.call, row, a, b) {
				continue
			}
			if asked(t, o.call, row, b, a) {
				t.Fatalf("%s, row %v: %s and %s, both ways", o.what, row, textOf(a), textOf(b))
			}
			if !asked(t, o.call, row, put(a, x, y), put(b, x, y)) {
				t.Fatalf("%s, row %v: %s and %s, but not with %s and %s", o.what, row, textOf(a), textOf(b), textOf(x), textOf(y))
			}
			if !asked(t, o.call, row, knot("g", x, a, y), knot("g", x, b, y)) {
				t.Fatalf("%s, row %v: %s and %s, but not within g", o.what, row, textOf(a), textOf(b))
			}
		}
	}
}

// Of three terms what is above the one that is above the third is above it, too;
// of two without variables, not the same, one is above.
func TestF2F3OneBehindTheOther(t *testing.T) {
	d := sample.Die(9)
	var open, ground []api.Term
	for range 40 {
		open = append(open, d.Term(3, "X", "Y", "a"))
		ground = append(ground, d.Term(3, "a", "b"))
	}
	for _, o := range orders() {
		for _, row := range rows() {
			above := map[[2]int]int{}
			for i, a := range open {
				for j, b := range open {
					if asked(t, o.call, row, a, b) {
						above[[2]int{i, j}] = 1
					}
				}
			}
			for p := range above {
				for k := range open {
					if above[[2]int{p[1], k}] == 1 && above[[2]int{p[0], k}] == 0 {
						t.Fatalf("%s, row %v: %s, %s, %s", o.what, row, textOf(open[p[0]]), textOf(open[p[1]]), textOf(open[k]))
					}
				}
			}
			for _, a := range ground {
				for _, b := range ground {
					if !same(a, b) && asked(t, o.call, row, a, b) == asked(t, o.call, row, b, a) {
						t.Fatalf("%s, row %v: neither of %s and %s", o.what, row, textOf(a), textOf(b))
					}
				}
			}
		}
	}
}
