package rewrite

import (
	"slices"
	"strings"
	"testing"

	"metaprune/api"
	"metaprune/sample"
)

func isVar(t api.Term) bool { return t.Name[0] < 'a' }

// fits: which texts stand for p's variables, so that it becomes t?
func fits(p, t api.Term, stands map[string]api.Term) bool {
	if isVar(p) {
		x, ok := stands[p.Name]
		stands[p.Name] = t
		return !ok || textOf(x) == textOf(t)
	}
	if p.Name != t.Name || len(p.Args) != len(t.Args) {
		return false
	}
	for i := range p.Args {
		if !fits(p.Args[i], t.Args[i], stands) {
			return false
		}
	}
	return true
}

func filled(t api.Term, stands map[string]api.Term) api.Term {
	if isVar(t) {
		return stands[t.Name]
	}
	out := knot(t.Name)
	for _, a := range t.Args {
		out.Args = append(out.Args, filled(a, stands))
	}
	return out
}

// option: what a place becomes by a rule, the place told by numbers.
type option struct {
	place []int
	term  api.Term
}

// options are all steps of t: place by place (A3), rule by rule.
func options(rules []api.Pair, t api.Term) []option {
	var out []option
	for _, r := range rules {
		stands := map[string]api.Term{}
		if fits(r.Left, t, stands) {
			out = append(out, option{nil, filled(r.Right, stands)})
		}
	}
	for i, a := range t.Args {
		for _, o := range options(rules, a) {
			x := knot(t.Name, slices.Clone(t.Args)...)
			x.Args[i] = o.term
			out = append(out, option{append([]int{i}, o.place...), x})
		}
	}
	return out
}

// innermost is the first option below whose place there is none.
func innermost(l []option) option {
	for _, o := range l {
		below := func(p option) bool {
			return len(p.place) > len(o.place) && slices.Equal(p.place[:len(o.place)], o.place)
		}
		if !slices.ContainsFunc(l, below) {
			return o
		}
	}
	panic("some place has none below it")
}

func outermost(l []option) option { return l[0] }

// plainWork: G3, word by word.
func plainWork(rules []api.Pair, t api.Term, most int, pick func([]option) option) (api.Term, int, api.Errno) {
	for n := 0; ; n++ {
		l := options(rules, t)
		if len(l) == 0 {
			return t, n, api.OK
		}
		if n == most {
			return api.Term{}, 0, api.ErrFuel
		}
		t = pick(l).term
		if sample.Count(t) > api.MaxGrown {
			return api.Term{}, 0, api.ErrFull
		}
	}
}

// plainSteps: G2, word by word.
func plainSteps(rules []api.Pair, t api.Term) ([]string, api.Errno) {
	if sample.Count(t) > api.MaxNodes {
		return nil, api.ErrLimit
	}
	var out []string
	for _, o := range options(rules, t) {
		if sample.Count(o.term) > api.MaxGrown {
			return nil, api.ErrFull
		}
		out = append(out, textOf(o.term))
	}
	return out, api.OK
}

// plainReach: G4, word by word.
func plainReach(rules []api.Pair, t api.Term) ([]string, api.Errno) {
	todo, texts := []api.Term{t}, []string{textOf(t)}
	for len(todo) > 0 {
		if _, e := plainSteps(rules, todo[0]); e != api.OK {
			return nil, e
		}
		for _, o := range options(rules, todo[0]) {
			if text := textOf(o.term); !slices.Contains(texts, text) {
				todo, texts = append(todo, o.term), append(texts, text)
			}
			if len(texts) > 200 {
				return nil, api.ErrLimit
			}
		}
		todo = todo[1:]
	}
	slices.Sort(texts)
	return texts, api.OK
}

// closed is t with other variables than these become a.
func closed(t api.Term, left api.Term) api.Term {
	if isVar(t) && !strings.Contains(textOf(left), t.Name) {
		return knot("a")
	}
	out := knot(t.Name)
	for _, a := range t.Args {
		out.Args = append(out.Args, closed(a, left))
	}
	return out
}

// drawnRules are some rules; not all of them come to an end, some double terms.
func drawnRules(d *sample.Die) []api.Pair {
	var rules []api.Pair
	for range 1 + d.Roll(3) {
		left := knot("h", d.Term(1, "X", "Y", "a"))
		if d.Roll(2) == 0 {
			left = knot("f", d.Term(1, "X", "Y", "a", "b"), d.Term(1, "X", "Y", "b"))
		}
		rules = append(rules, api.Pair{Left: left, Right: closed(d.Term(d.Roll(4), "X", "Y", "X", "a"), left)})
	}
	return rules
}

// growing are a rule that makes of terms more and more, some others, and a term
// to which they do that.
func growing(d *sample.Die) ([]api.Pair, api.Term) {
	x, a := knot("X"), knot("a")
	right := [][]api.Term{{x, x}, {x, knot("h", x)}, {a, knot("k", x), x}, {x, x, x}}[d.Roll(4)]
	rules := append(drawnRules(d), api.Pair{Left: knot("h", x), Right: knot("g", right...)})
	return rules, tower(2+d.Roll(7), broad(d.Roll(150), d.Term(0, "X", "a", "b")))
}

func TestG2G3G4WordByWord(t *testing.T) {
	d := sample.Die(21)
	told := map[string]int{}
	for i := range 2000 {
		rules, x, most := drawnRules(&d), d.Term(5, "X", "a", "b"), d.Roll(40)
		if i%20 == 0 {
			rules, x = growing(&d)
			most = d.Roll(80)
		}
		in := textOfRules(rules) + ": " + textOf(x)
		l, e := Steps(rules, x)
		if want, f := plainSteps(rules, x); !slices.Equal(sample.Texts(l), want) || e != f {
			t.Fatalf("Steps, %s: %s, error %d, want %v, error %d", in, textOfAll(l), e, want, f)
		}
		y, n, e := Inner(rules, x, most)
		if z, m, f := plainWork(rules, x, most, innermost); textOf(y) != textOf(z) || n != m || e != f {
			t.Fatalf("Inner, %s, %d: %s %d, error %d, want %s %d, error %d", in, most, textOf(y), n, e, textOf(z), m, f)
		}
		told["Inner "+name(e)]++
		y, n, e = Outer(rules, x, most)
		if z, m, f := plainWork(rules, x, most, outermost); textOf(y) != textOf(z) || n != m || e != f {
			t.Fatalf("Outer, %s, %d: %s %d, error %d, want %s %d, error %d", in, most, textOf(y), n, e, textOf(z), m, f)
		}
		told["Outer "+name(e)]++
		texts, e := Reach(rules, x)
		if want, f := plainReach(rules, x); !slices.Equal(texts, want) || e != f {
			t.Fatalf("Reach, %s: %v, error %d, want %v, error %d", in, texts, e, want, f)
		}
		told["Reach "+name(e)]++
	}
	for _, what := range []string{"Inner OK", "Inner ErrFuel", "Inner ErrFull", "Outer OK", "Outer ErrFuel", "Outer ErrFull", "Reach OK", "Reach ErrLimit"} {
		if told[what] < 20 {
			t.Errorf("%s is told just %d times", what, told[what])
		}
	}
}

func name(e api.Errno) string {
	switch e {
	case api.OK:
		return "OK"
	case api.ErrLimit:
		return "ErrLimit"
	case api.ErrFull:
		return "ErrFull"
	case api.ErrFuel:
		return "ErrFuel"
	}
	return "another error"
}

// Whatever steps are done, what comes at last is one of those that are reached;
// two terms meet just if both come to the same.
func TestG3G4Agree(t *testing.T) {
	d := sample.Die(31)
	for range 800 {
		rules, x := drawnRules(&d), d.Term(3, "X", "a", "b")
		texts, e := Reach(rules, x)
		if e != api.OK {
			continue
		}
		y, _, e := Inner(rules, x, 50)
		z, _, f := Outer(rules, x, 50)
		if e == api.OK && !slices.Contains(texts, textOf(y)) || f == api.OK && !slices.Contains(texts, textOf(z)) {
			t.Fatalf("%s: %s: %v, without %s or %s", textOfRules(rules), textOf(x), texts, textOf(y), textOf(z))
		}
		if e != api.OK {
			continue
		}
		for _, u := range []api.Term{x, y, knot("a")} {
			v, _, f := Inner(rules, u, 50)
			ok, g := Meet(rules, x, u, 50)
			if f != g || ok != (f == api.OK && textOf(v) == textOf(y)) {
				t.Fatalf("%s: %s and %s: meet %v, error %d", textOfRules(rules), textOf(x), textOf(u), ok, g)
			}
		}
	}
}
