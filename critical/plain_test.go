package critical

import (
	"slices"
	"strconv"
	"strings"
	"testing"

	"metaprune/api"
	"metaprune/order"
	"metaprune/rewrite"
	"metaprune/sample"
)

func isVar(t api.Term) bool { return t.Name[0] < 'a' }

// renamed is t with what named makes of its variables.
func renamed(t api.Term, named func(string) string) api.Term {
	if isVar(t) {
		return knot(named(t.Name))
	}
	out := knot(t.Name)
	for _, a := range t.Args {
		out.Args = append(out.Args, renamed(a, named))
	}
	return out
}

// put is t with x for a variable.
func put(t api.Term, name string, x api.Term) api.Term {
	if t.Name == name {
		return x
	}
	out := knot(t.Name)
	for _, a := range t.Args {
		out.Args = append(out.Args, put(a, name, x))
	}
	return out
}

// become changes terms so that the first two of them are the same: the first place
// where they aren't has a variable, or nothing does that.
func become(terms []api.Term) bool {
	for {
		name, x, ok := unlike(terms[0], terms[1])
		if name == "" {
			return ok
		}
		for i := range terms {
			terms[i] = put(terms[i], name, x)
		}
	}
}

// unlike: which variable must be what, so that the first place where a and b aren't
// the same has one term? No variable: there is no such place; false: nothing does it.
func unlike(a, b api.Term) (name string, x api.Term, ok bool) {
	switch {
	case textOf(a) == textOf(b):
		return "", x, true
	case isVar(a):
		if strings.Contains(textOf(b), a.Name) {
			return "", x, false
		}
		return a.Name, b, true
	case isVar(b):
		return unlike(b, a)
	case a.Name != b.Name || len(a.Args) != len(b.Args):
		return "", x, false
	}
	for i := range a.Args {
		if name, x, ok = unlike(a.Args[i], b.Args[i]); name != "" || !ok {
			return name, x, ok
		}
	}
	return "", x, true
}

// places are all of t, each ahead of those below it.
func places(t api.Term) [][]int {
	l := [][]int{nil}
	for i, a := range t.Args {
		for _, p := range places(a) {
			l = append(l, append([]int{i}, p...))
		}
	}
	return l
}

func at(t api.Term, place []int) api.Term {
	for _, i := range place {
		t = t.Args[i]
	}
	return t
}

func putAt(t api.Term, place []int, x api.Term) api.Term {
	if len(place) == 0 {
		return x
	}
	out := knot(t.Name, slices.Clone(t.Args)...)
	out.Args[place[0]] = putAt(t.Args[place[0]], place[1:], x)
	return out
}

// namedApart: no name is a part of another one.
func namedApart(t api.Term, own string) api.Term {
	return renamed(t, func(name string) string { return "Q" + own + name + "Q" })
}

// plainPairs: H1, word by word, of small rules.
func plainPairs(rules []api.Pair) []api.Pair {
	var out []api.Pair
	for i, outer := range rules {
		for j, inner := range rules {
			for _, place := range places(outer.Left) {
				x := at(outer.Left, place)
				if isVar(x) || i == j && len(place) == 0 {
					continue
				}
				l, r := namedApart(inner.Left, "1"), namedApart(inner.Right, "1")
				all := []api.Term{namedApart(x, "0"), l, namedApart(outer.Right, "0"), putAt(namedApart(outer.Left, "0"), place, r)}
				if become(all) {
					out = append(out, inTurn(all[2], all[3]))
				}
			}
		}
	}
	return out
}

// inTurn is a pair with its variables named as they come.
func inTurn(left, right api.Term) api.Pair {
	var names []string
	named := func(name string) string {
		if !slices.Contains(names, name) {
			names = append(names, name)
		}
		return "Z" + strconv.Itoa(1+slices.Index(names, name))
	}
	return rule(renamed(left, named), renamed(right, named))
}

// plainJoin: H2, word by word, of pairs that may be given to Meet.
func plainJoin(rules []api.Pair, fuel int) (bool, api.Errno) {
	for _, p := range plainPairs(rules) {
		if ok, e := rewrite.Meet(rules, p.Left, p.Right, fuel); !ok || e != api.OK {
			return false, e
		}
	}
	return true, api.OK
}

// closed is t with other variables than left's become a.
func closed(t, left api.Term) api.Term {
	return strip(t, func(name string) bool { return strings.Contains(textOf(left), name) })
}

func strip(t api.Term, stays func(string) bool) api.Term {
	if isVar(t) && !stays(t.Name) {
		return knot("a")
	}
	out := knot(t.Name)
	for _, a := range t.Args {
		out.Args = append(out.Args, strip(a, stays))
	}
	return out
}

// drawnRules come into each other's way often; not all of them come to an end.
func drawnRules(d *sample.Die) []api.Pair {
	var rules []api.Pair
	for range 1 + d.Roll(3) {
		left := d.Term(2+d.Roll(2), "X", "Y", "X", "a")
		if isVar(left) {
			left = knot("h", left)
		}
		rules = append(rules, rule(left, closed(d.Term(d.Roll(3), "X", "Y", "a", "b"), left)))
	}
	return rules
}

func TestH1H2WordByWord(t *testing.T) {
	d := sample.Die(8)
	several, told := 0, map[string]int{}
	for range 3000 {
		rules, fuel := drawnRules(&d), d.Roll(12)
		l, e := Pairs(rules)
		want := plainPairs(rules)
		if textOfPairs(l) != textOfPairs(want) || e != api.OK {
			t.Fatalf("Pairs of %s: %s, error %d, want %s", textOfPairs(rules), textOfPairs(l), e, textOfPairs(want))
		}
		ok, e := Join(rules, fuel)
		if yes, f := plainJoin(rules, fuel); ok != yes || e != f {
			t.Fatalf("Join of %s, %d: %v, error %d, want %v, error %d", textOfPairs(rules), fuel, ok, e, yes, f)
		}
		if len(l) > 1 {
			several++
			told[strconv.FormatBool(ok)+strconv.Itoa(int(e))]++
		}
	}
	for _, what := range []string{"true0", "false0", "false9"} {
		if told[what] < 50 {
			t.Errorf("%s is told just %d times", what, told[what])
		}
	}
	if several < 300 {
		t.Errorf("just %d have several pairs", several)
	}
}

// downward are those of the rules that go down.
func downward(t *testing.T, rules []api.Pair) []api.Pair {
	var out []api.Pair
	for _, r := range rules {
		ok, e := order.Path([]string{"a", "b", "k", "h", "g", "f"}, r.Left, r.Right)
		if e != api.OK {
			t.Fatalf("Path of %s: error %d", textOfPairs([]api.Pair{r}), e)
		}
		if ok {
			out = append(out, r)
		}
	}
	return out
}

// Rules that go down make of a term always the same just if all pairs meet: else a
// pair comes of one term, and has two ends.
func TestH2OneEndJustIfAllMeet(t *testing.T) {
	d := sample.Die(9)
	met, not := 0, 0
	for range 1500 {
		rules := downward(t, drawnRules(&d))
		ok, e := Join(rules, api.MaxFuel)
		if e != api.OK {
			t.Fatalf("Join of %s: error %d", textOfPairs(rules), e)
		}
		if !ok {
			not++
			continue
		}
		for range 5 {
			x := d.Term(5, "X", "a", "b")
			y, _, e := rewrite.Inner(rules, x, api.MaxFuel)
			z, _, f := rewrite.Outer(rules, x, api.MaxFuel)
			if textOf(y) != textOf(z) || e != api.OK || f != api.OK {
				t.Fatalf("%s make %s and %s of %s, errors %d, %d", textOfPairs(rules), textOf(y), textOf(z), textOf(x), e, f)
			}
			if textOf(y) != textOf(x) {
				met++
			}
		}
	}
	if met < 500 || not < 100 {
		t.Errorf("just %d terms, %d rules whose pairs don't meet", met, not)
	}
}
