package auto

import (
	"fmt"
	"slices"
	"strings"
	"testing"

	"metaprune/api"
	"metaprune/sample"
)

// mayEnd does word by word what the promise says of moves.
func mayEnd(a api.Auto, t api.Term, state int) bool {
	for _, m := range a.Moves {
		if m.Name != t.Name || len(m.From) != len(t.Args) || m.To != state {
			continue
		}
		all := true
		for i, s := range m.From {
			all = all && mayEnd(a, t.Args[i], s)
		}
		if all {
			return true
		}
	}
	return false
}

func isIn(a api.Auto, t api.Term) bool {
	return slices.ContainsFunc(a.Last, func(s int) bool { return mayEnd(a, t, s) })
}

// symbolsOf are the moves' symbols: of each one move.
func symbolsOf(a api.Auto) []api.Move {
	var l []api.Move
	for _, m := range a.Moves {
		if !slices.ContainsFunc(l, func(n api.Move) bool { return n.Name == m.Name && len(n.From) == len(m.From) }) {
			l = append(l, m)
		}
	}
	return l
}

// small are all terms of symbols with at most so many knots: those with fewer first,
// of as many in the order of their texts.
func small(symbols []api.Move, most int) []api.Term {
	bySize := make([][]api.Term, most+1)
	for size := 1; size <= most; size++ {
		for _, m := range symbols {
			for _, args := range rows(bySize, len(m.From), size-1) {
				bySize[size] = append(bySize[size], knot(m.Name, args...))
			}
		}
		slices.SortFunc(bySize[size], func(x, y api.Term) int { return strings.Compare(textOf(x), textOf(y)) })
	}
	return slices.Concat(bySize...)
}

// rows are all rows of so many terms that have so many knots in all.
func rows(bySize [][]api.Term, many, knots int) [][]api.Term {
	if many == 0 {
		if knots == 0 {
			return [][]api.Term{nil}
		}
		return nil
	}
	var out [][]api.Term
	for size := 1; size <= knots; size++ {
		for _, rest := range rows(bySize, many-1, knots-size) {
			for _, x := range bySize[size] {
				out = append(out, append([]api.Term{x}, rest...))
			}
		}
	}
	return out
}

// pool are terms of the symbols, one of each that end in other states of some
// automaton: what is true of all of them is true of all terms.
func pool(symbols []api.Move, l ...api.Auto) []api.Term {
	var terms []api.Term
	var seen []string
	for again := true; again; {
		again = false
		for _, m := range symbols {
			for _, args := range choices(terms, len(m.From)) {
				x := knot(m.Name, args...)
				if key := endsText(x, l); !slices.Contains(seen, key) {
					seen = append(seen, key)
					terms = append(terms, x)
					again = true
				}
			}
		}
	}
	return terms
}

// choices are all lists of so many of these terms.
func choices(of []api.Term, many int) [][]api.Term {
	if many == 0 {
		return [][]api.Term{nil}
	}
	var out [][]api.Term
	for _, rest := range choices(of, many-1) {
		for _, x := range of {
			out = append(out, append([]api.Term{x}, rest...))
		}
	}
	return out
}

func endsText(x api.Term, l []api.Auto) string {
	var b strings.Builder
	for _, a := range l {
		for s := range a.States {
			b.WriteByte("01"[one(mayEnd(a, x, s))])
		}
	}
	return b.String()
}

func one(ok bool) int {
	if ok {
		return 1
	}
	return 0
}

func plainWithin(a, b api.Auto) bool {
	return !slices.ContainsFunc(pool(symbolsOf(a), a, b), func(x api.Term) bool { return isIn(a, x) && !isIn(b, x) })
}

// plainLeast goes from each term around another one, at some place, to those around
// that: for each it notes of which terms of the pool what comes is in a. So two terms
// are alike, if no note tells them apart.
func plainLeast(a api.Auto) int {
	terms := pool(symbolsOf(a), a)
	number := func(x api.Term) int {
		key := endsText(x, []api.Auto{a})
		return slices.IndexFunc(terms, func(y api.Term) bool { return endsText(y, []api.Auto{a}) == key })
	}
	var first strings.Builder
	for _, x := range terms {
		first.WriteByte("01"[one(isIn(a, x))])
	}
	notes := []string{first.String()}
	for i := 0; i < len(notes); i++ {
		for _, m := range symbolsOf(a) {
			for _, args := range choices(terms, len(m.From)) {
				for place := range args {
					var b strings.Builder
					for _, x := range terms {
						row := slices.Clone(args)
						row[place] = x
						b.WriteByte(notes[i][number(knot(m.Name, row...))])
					}
					if !slices.Contains(notes, b.String()) {
						notes = append(notes, b.String())
					}
				}
			}
		}
	}
	var kinds []string
	for i := range terms {
		var b strings.Builder
		for _, n := range notes {
			b.WriteByte(n[i])
		}
		if !slices.Contains(kinds, b.String()) {
			kinds = append(kinds, b.String())
		}
	}
	return len(kinds)
}

// drawn is an automaton, ever another one.
func drawn(d *sample.Die, states, most int) api.Auto {
	a := api.Auto{States: 1 + d.Roll(states)}
	for range d.Roll(most) {
		k := d.Roll(6)
		m := api.Move{Name: []string{"a", "ab", "f", "h", "f", "g"}[k], To: d.Roll(a.States)}
		for range []int{0, 0, 0, 1, 2, 2}[k] {
			m.From = append(m.From, d.Roll(a.States))
		}
		a.Moves = append(a.Moves, m)
	}
	for s := range a.States {
		if d.Roll(3) == 0 {
			a.Last = append(a.Last, s)
		}
	}
	return a
}

func TestK2WordByWord(t *testing.T) {
	d := sample.Die(3)
	symbols := autoOf(t, "1; a>0 ab>0 f>0 b>0 h0>0 f00>0 g00>0 h00>0;").Moves
	terms := small(symbols, 4)
	told := map[bool]int{}
	for range 150 {
		a, b := drawn(&d, 4, 12), drawn(&d, 4, 12)
		both, e := Both(a, b)
		either, f := Either(a, b)
		if e != api.OK || f != api.OK {
			t.Fatalf("errors %d, %d", e, f)
		}
		bounded(t, "Both", both, a, b)
		bounded(t, "Either", either, a, b)
		for _, x := range terms {
			left, right := isIn(a, x), isIn(b, x)
			if ok, e := Accepts(a, x); ok != left || e != api.OK {
				t.Fatalf("Accepts of %s: %s: %v, error %d", textOfAuto(a), textOf(x), ok, e)
			}
			if isIn(both, x) != (left && right) || isIn(either, x) != (left || right) {
				t.Fatalf("%s and %s: %s: Both %v, Either %v", textOfAuto(a), textOfAuto(b), textOf(x), isIn(both, x), isIn(either, x))
			}
			told[left]++
			told[left && right]++
		}
	}
	if told[true] < 500 || told[false] < 500 {
		t.Errorf("told %v", told)
	}
}

// high is an automaton whose first term has some knots: just the state 0 has leaves,
// and the others have terms by those below them, or some by themselves.
func high(d *sample.Die) api.Auto {
	a := api.Auto{States: 2 + d.Roll(3)}
	for range 1 + d.Roll(2) {
		a.Moves = append(a.Moves, api.Move{Name: []string{"a", "ab", "b"}[d.Roll(3)]})
	}
	for s := 1; s < a.States; s++ {
		for range 1 + d.Roll(4) {
			m := api.Move{Name: []string{"f", "fa", "g"}[d.Roll(3)], To: s}
			for range 1 + d.Roll(2) {
				m.From = append(m.From, d.Roll(min(s+1, a.States)))
			}
			a.Moves = append(a.Moves, m)
		}
	}
	for i := range a.Moves {
		j := d.Roll(len(a.Moves))
		a.Moves[i], a.Moves[j] = a.Moves[j], a.Moves[i]
	}
	a.Last = []int{a.States - 1}
	return a
}

// someOf is what Some must answer, if it has at most six knots; no term: it has more,
// or there is none.
func someOf(a api.Auto) api.Term {
	for _, x := range small(symbolsOf(a), 6) {
		if isIn(a, x) {
			return x
		}
	}
	return api.Term{}
}

func TestK2SomeWordByWord(t *testing.T) {
	d := sample.Die(4)
	sizes, none := map[int]int{}, 0
	for i := range 500 {
		a := high(&d)
		if i%3 == 0 {
			a = drawn(&d, 5, 14)
		}
		in := func(x api.Term) bool { return isIn(a, x) }
		want := someOf(a)
		x, e := Some(a)
		switch {
		case want.Name != "":
			if textOf(x) != textOf(want) || e != api.OK {
				t.Fatalf("Some of %s: %s, error %d, want %s", textOfAuto(a), textOf(x), e, textOf(want))
			}
			sizes[sample.Count(x)]++
		case slices.ContainsFunc(pool(symbolsOf(a), a), in):
			if sample.Count(x) <= 6 || !in(x) || e != api.OK {
				t.Fatalf("Some of %s: %s, error %d, want one of more knots", textOfAuto(a), textOf(x), e)
			}
		default:
			if !isNoTerm(x) || e != api.ErrNone {
				t.Fatalf("Some of %s: %s, error %d, want none", textOfAuto(a), textOf(x), e)
			}
			none++
		}
	}
	if none < 50 || slices.ContainsFunc([]int{1, 2, 3, 4, 5}, func(n int) bool { return sizes[n] < 10 }) {
		t.Errorf("told: %d times none, of sizes %v", none, sizes)
	}
}

func TestK3WithinWordByWord(t *testing.T) {
	d := sample.Die(5)
	told := map[bool]int{}
	for range 1500 {
		a, b := drawn(&d, 3, 9), drawn(&d, 3, 14)
		if d.Roll(2) == 0 {
			b.Moves = append(b.Moves, a.Moves...)
			b.States = max(a.States, b.States)
		}
		want := plainWithin(a, b)
		if ok, e := Within(a, b); ok != want || e != api.OK {
			t.Fatalf("Within of %s, %s: %v, error %d", textOfAuto(a), textOfAuto(b), ok, e)
		}
		if x, _ := Some(a); x.Name != "" {
			told[want]++
		}
	}
	if told[true] < 50 || told[false] < 50 {
		t.Errorf("told %v", told)
	}
}

func TestK3LeastWordByWord(t *testing.T) {
	d := sample.Die(6)
	told := map[int]int{}
	for range 1500 {
		a := drawn(&d, 3, 16)
		want := plainLeast(a)
		if n, e := Least(a); n != want || e != api.OK {
			t.Fatalf("Least of %s: %d, error %d, want %d", textOfAuto(a), n, e, want)
		}
		told[want]++
	}
	for n := range 6 {
		if told[n] < 10 {
			t.Errorf("told %v", told)
		}
	}
}

func TestLists(t *testing.T) {
	for long, all := range [][]string{
		{"[]"},
		{"[5]", "[0]", "[3]"},
		{"[5 5]", "[5 0]", "[5 3]", "[0 5]", "[0 0]", "[0 3]", "[3 5]", "[3 0]", "[3 3]"},
	} {
		for most := range len(all) + 1 {
			var some []string
			for l := range lists([]set{5, 0, 3}, long) {
				if len(some) == most {
					break
				}
				some = append(some, fmt.Sprint(l))
			}
			if !slices.Equal(some, all[:most]) {
				t.Errorf("lists of %d, left behind %d: %v, want %v", long, most, some, all[:most])
			}
		}
	}
	for l := range lists(nil, 2) {
		t.Errorf("lists of none: %v", l)
	}
}
