package work

import (
	"slices"
	"strconv"
	"strings"
	"testing"

	"metaprune/api"
	"metaprune/sample"
	"metaprune/term"
)

var (
	knot   = sample.Knot
	broad  = sample.Broad
	tower  = sample.Tower
	textOf = sample.Text
)

func parsed(t *testing.T, text string) api.Term {
	t.Helper()
	x, e := term.Parse(text)
	if e != api.OK {
		t.Fatalf("Parse(%q): error %d", text, e)
	}
	return x
}

// termsOf reads terms, "h(h(X)) X".
func termsOf(t *testing.T, text string) []api.Term {
	t.Helper()
	var l []api.Term
	for _, w := range strings.Fields(text) {
		l = append(l, parsed(t, w))
	}
	return l
}

// rulesOf reads rules, each of two terms: "h(h(X)) X f(a,X) X".
func rulesOf(t *testing.T, text string) []api.Pair {
	t.Helper()
	var rules []api.Pair
	for p := range slices.Chunk(termsOf(t, text), 2) {
		rules = append(rules, rule(p[0], p[1]))
	}
	return rules
}

func rule(left, right api.Term) api.Pair { return api.Pair{Left: left, Right: right} }

// manyRules are so many, of a0, a1, .. to b.
func manyRules(n int) []api.Pair {
	var rules []api.Pair
	for i := range n {
		rules = append(rules, rule(knot("a"+strconv.Itoa(i)), knot("b")))
	}
	return rules
}

func manyTerms(n int, x api.Term) []api.Term { return slices.Repeat([]api.Term{x}, n) }

// answer: all that Ends tells.
type answer struct {
	texts        []string
	steps, wrong int
	e            api.Errno
}

func ends(rules []api.Pair, l []api.Term, most, hands int) answer {
	texts, steps, wrong, e := Ends(rules, l, most, hands)
	return answer{texts, steps, wrong, e}
}

func (a answer) is(b answer) bool {
	return slices.Equal(a.texts, b.texts) && a.steps == b.steps && a.wrong == b.wrong && a.e == b.e
}

func (a answer) String() string {
	out := strconv.Quote(strings.Join(a.texts, " ")) + "; " + strconv.Itoa(a.steps) + " steps, " + strconv.Itoa(a.wrong) + " errors"
	if len(out) > 400 {
		out = "(its end) " + out[len(out)-400:]
	}
	return out + "; error " + strconv.Itoa(int(a.e))
}

// wanted: Ends tells this, however many hands there are.
func wanted(t *testing.T, what string, rules []api.Pair, l []api.Term, most int, want answer) {
	t.Helper()
	for hands := 1; hands <= api.MaxHands; hands++ {
		if got := ends(rules, l, most, hands); !got.is(want) {
			t.Errorf("%s, %d hands: %s, want %s", what, hands, got, want)
		}
	}
}

// refused: Ends tells this error, and nothing else.
func refused(t *testing.T, what string, rules []api.Pair, l []api.Term, most, hands int, want api.Errno) {
	t.Helper()
	if got := ends(rules, l, most, hands); !got.is(answer{e: want}) {
		t.Errorf("%s: %s, want nothing and error %d", what, got, want)
	}
}

func TestT1Ends(t *testing.T) {
	plus := "f(a,X) X f(h(X),Y) h(f(X,Y))"
	for _, c := range []struct {
		what, rules, terms, texts string
		most, steps               int
	}{
		{"the document's own", "h(h(X)) X", "h(h(a)) h(h(h(h(h(b)))))", "a h(b)", 9, 3},
		{"one", "h(h(X)) X", "h(h(h(a)))", "h(a)", 9, 1},
		{"nothing to do", "h(h(X)) X", "h(a) X f(X,b)", "h(a) X f(X,b)", 9, 0},
		{"nothing to do, by no steps", "h(h(X)) X", "h(a) X", "h(a) X", 0, 0},
		{"no rules", "", "h(h(a)) X", "h(h(a)) X", 9, 0},
		{"each has all the steps", "h(X) X", "h(h(h(a))) h(h(h(b))) h(h(h(c)))", "a b c", 3, 9},
		{"in their order", "a b", "f(a,a) c f(b,a) a d", "f(b,b) c f(b,b) b d", 9, 4},
		{"one more than once", "a b", "a a c a", "b b c b", 9, 3},
		{"sums", plus, "f(h(h(a)),b) f(f(h(a),h(a)),h(a)) a", "h(h(b)) h(h(h(a))) a", 9, 8},
		{"the innermost first", "h(X) f(X,X) a b", "h(a) h(b)", "f(b,b) f(b,b)", 9, 3},
		{"the innermost first, though it needs not be", "h(X) c a b", "h(a) h(h(a))", "c c", 9, 5},
		{"by the first rule", "h(a) b h(a) c", "h(a) h(b)", "b h(b)", 9, 1},
	} {
		want := answer{texts: strings.Fields(c.texts), steps: c.steps}
		wanted(t, c.what, rulesOf(t, c.rules), termsOf(t, c.terms), c.most, want)
	}
}

func TestT1NoTerms(t *testing.T) {
	wanted(t, "nil", rulesOf(t, "a b"), nil, 9, answer{})
	wanted(t, "empty", rulesOf(t, "a b"), []api.Term{}, 9, answer{})
	wanted(t, "nothing at all", nil, nil, 0, answer{})
}

func TestT1RulesThatMayNotBe(t *testing.T) {
	x, a := knot("X"), knot("a")
	fine, toomany := termsOf(t, "h(a)"), manyTerms(api.MaxList+1, a)
	bad := manyRules(api.MaxList + 1)
	bad[0].Left = knot("")
	type wrong struct {
		what  string
		rules []api.Pair
		e     api.Errno
	}
	all := []wrong{
		{"MaxList + 1", manyRules(api.MaxList + 1), api.ErrLimit},
		{"MaxList + 1, of which the first is wrong", bad, api.ErrLimit},
		{"an empty rule", []api.Pair{{}}, api.ErrName},
		{"a variable on the left", []api.Pair{rule(x, a)}, api.ErrForm},
		{"a variable on the right alone", []api.Pair{rule(knot("h", a), x)}, api.ErrOpen},
		{"the last of MaxList", append(manyRules(api.MaxList-1), rule(knot("h", a), x)), api.ErrOpen},
		{"the first one's", []api.Pair{rule(knot("h", a), x), rule(x, a)}, api.ErrOpen},
	}
	for _, w := range sample.Wrongs() {
		all = append(all, wrong{"Left " + w.What, []api.Pair{rule(w.Term, a)}, w.Errno})
		all = append(all, wrong{"Right " + w.What, []api.Pair{rule(a, w.Term)}, w.Errno})
	}
	for _, w := range all {
		refused(t, w.what, w.rules, fine, 9, 2, w.e)
		refused(t, w.what+", no terms", w.rules, nil, 9, 2, w.e)
		refused(t, w.what+", ahead of too many terms", w.rules, toomany, 9, 2, w.e)
		refused(t, w.what+", ahead of no hands", w.rules, fine, 9, 0, w.e)
		refused(t, w.what+", ahead of too many steps", w.rules, fine, api.MaxFuel+1, 2, w.e)
		refused(t, w.what+", ahead of all else", w.rules, toomany, -1, api.MaxHands+1, w.e)
	}
}

func TestT1HowManyRules(t *testing.T) {
	wanted(t, "MaxList rules", manyRules(api.MaxList), termsOf(t, "f(a0,a39) a40"), 9, answer{texts: []string{"f(b,b)", "a40"}, steps: 2})
}

func TestT1HowManyTerms(t *testing.T) {
	rules := rulesOf(t, "h(h(X)) X")
	var l []api.Term
	want := answer{}
	for i := range api.MaxList {
		leaf := knot("a" + strconv.Itoa(i))
		l = append(l, tower(2*i, leaf))
		want.texts = append(want.texts, leaf.Name)
		want.steps += i
	}
	wanted(t, "MaxList terms", rules, l, api.MaxFuel, want)
	for _, x := range []api.Term{knot("a"), {}, sample.Endless()} {
		for _, many := range []int{api.MaxList + 1, 3 * api.MaxList} {
			l := manyTerms(many, x)
			refused(t, "too many", rules, l, 9, 2, api.ErrLimit)
			refused(t, "too many, ahead of no hands", rules, l, 9, 0, api.ErrLimit)
			refused(t, "too many, ahead of too many hands", rules, l, 9, api.MaxHands+1, api.ErrLimit)
			refused(t, "too many, ahead of too few steps", rules, l, -1, 2, api.ErrLimit)
			refused(t, "too many, ahead of too many steps", rules, l, api.MaxFuel+1, 2, api.ErrLimit)
		}
	}
}

func TestT1HandsAndSteps(t *testing.T) {
	rules := rulesOf(t, "h(X) X")
	beyond := []int{-1, -1 << 63, 1<<63 - 1, -1 << 31, 1 << 32, 1<<32 + 1}
	for what, l := range map[string][]api.Term{
		"no terms": nil, "some": termsOf(t, "h(a) a"), "MaxList": manyTerms(api.MaxList, knot("a")), "wrong ones": {{}, sample.Endless()},
	} {
		for _, hands := range append([]int{0, api.MaxHands + 1}, beyond...) {
			refused(t, what+", hands "+strconv.Itoa(hands), rules, l, 9, hands, api.ErrPlace)
			refused(t, what+", without rules, hands "+strconv.Itoa(hands), nil, l, 9, hands, api.ErrPlace)
			refused(t, what+", steps too, hands "+strconv.Itoa(hands), rules, l, -1, hands, api.ErrPlace)
		}
		for _, most := range append([]int{api.MaxFuel + 1}, beyond...) {
			refused(t, what+", steps "+strconv.Itoa(most), rules, l, most, 1, api.ErrPlace)
			refused(t, what+", steps "+strconv.Itoa(most), rules, l, most, api.MaxHands, api.ErrPlace)
		}
	}
	for _, most := range []int{1, api.MaxFuel - 1, api.MaxFuel} {
		wanted(t, strconv.Itoa(most)+" steps", rules, termsOf(t, "h(a) b"), most, answer{texts: []string{"a", "b"}, steps: 1})
	}
	wanted(t, "0 steps", rules, termsOf(t, "h(a) b"), 0, answer{texts: []string{"", "b"}, wrong: 1})
}

// Terms that may not be are told as those of which nothing came, one by one.
func TestT1TermsThatMayNotBe(t *testing.T) {
	rules := rulesOf(t, "h(X) X")
	for _, w := range sample.Wrongs() {
		l := []api.Term{knot("h", knot("a")), w.Term, tower(2, knot("b"))}
		wanted(t, w.What, rules, l, 9, answer{texts: []string{"a", "", "b"}, steps: 3, wrong: 1})
		wanted(t, w.What+", alone", rules, l[1:2], 9, answer{texts: []string{""}, wrong: 1})
		wanted(t, w.What+", without rules", nil, l[1:2], 0, answer{texts: []string{""}, wrong: 1})
		want := answer{texts: slices.Repeat([]string{""}, api.MaxList), wrong: api.MaxList}
		wanted(t, w.What+", MaxList times", rules, manyTerms(api.MaxList, w.Term), 9, want)
	}
	most := broad(api.MaxNodes-1, knot("c"))
	wanted(t, "MaxNodes knots", rules, []api.Term{most}, 9, answer{texts: []string{textOf(most)}})
}

// lifted takes many by high steps: each h goes above each f.
func lifted(many, high int) api.Term {
	x := tower(many, knot("a"))
	for range high {
		x = knot("f", x, knot("b"))
	}
	return x
}

// What a term did till it was an error is none of the steps.
func TestT1Fuel(t *testing.T) {
	rules := rulesOf(t, "f(h(X),Y) h(f(X,Y)) e e k(X) X")
	six, full := lifted(3, 2), knot("g", lifted(20, 20), knot("c"))
	sixEnd, fullEnd := "h(h(h(f(f(a,b),b))))", "g("+textOf(tower(20, lifted(0, 20)))+",c)"
	over := knot("g", lifted(20, 20), parsed(t, "k(c)"))
	for _, c := range []struct {
		what string
		l    []api.Term
		most int
		want answer
	}{
		{"one fewer", []api.Term{six, knot("a")}, 5, answer{texts: []string{"", "a"}, wrong: 1}},
		{"just as many", []api.Term{six, knot("a")}, 6, answer{texts: []string{sixEnd, "a"}, steps: 6}},
		{"one more", []api.Term{six, knot("a")}, 7, answer{texts: []string{sixEnd, "a"}, steps: 6}},
		{"an endless one ahead", []api.Term{knot("e"), six}, 6, answer{texts: []string{"", sixEnd}, steps: 6, wrong: 1}},
		{"an endless one behind", []api.Term{six, knot("e")}, api.MaxFuel, answer{texts: []string{sixEnd, ""}, steps: 6, wrong: 1}},
		{"MaxFuel", []api.Term{full, six}, api.MaxFuel, answer{texts: []string{fullEnd, sixEnd}, steps: api.MaxFuel + 6}},
		{"MaxFuel, one fewer given", []api.Term{full, six}, api.MaxFuel - 1, answer{texts: []string{"", sixEnd}, steps: 6, wrong: 1}},
		{"MaxFuel + 1", []api.Term{over, full}, api.MaxFuel, answer{texts: []string{"", fullEnd}, steps: api.MaxFuel, wrong: 1}},
		{"all they can do", manyTerms(api.MaxList, full), api.MaxFuel, answer{texts: slices.Repeat([]string{fullEnd}, api.MaxList), steps: api.MaxList * api.MaxFuel}},
	} {
		wanted(t, c.what, rules, c.l, c.most, c.want)
	}
}

// grows makes of h above x f above so many of x and of a that it has n knots, if x
// has a hundred; and what comes out.
func grows(n int, x api.Term) (api.Pair, api.Term) {
	times := (n - 1) / 100
	right, out := broad(times, knot("X")), broad(times, x)
	for range (n - 1) % 100 {
		right.Args, out.Args = append(right.Args, knot("a")), append(out.Args, knot("a"))
	}
	return rule(knot("h", knot("X")), right), out
}

// A term may become greater than one that is given: it has a text all the same.
func TestT1Grown(t *testing.T) {
	x := broad(99, knot("b"))
	for _, n := range []int{api.MaxNodes, api.MaxNodes + 1, 1000, api.MaxGrown - 1, api.MaxGrown, api.MaxGrown + 1} {
		r, out := grows(n, x)
		if sample.Count(out) != n {
			t.Fatalf("%d knots, not %d", sample.Count(out), n)
		}
		rules := append(rulesOf(t, "k(X) X"), r)
		want := answer{texts: []string{"c", textOf(out), "d"}, steps: 4}
		if n > api.MaxGrown {
			want = answer{texts: []string{"c", "", "d"}, steps: 3, wrong: 1}
		}
		l := []api.Term{parsed(t, "k(c)"), knot("h", x), parsed(t, "k(k(d))")}
		wanted(t, strconv.Itoa(n)+" knots", rules, l, 9, want)
	}
}

// Each of what a term can be refused for counts once.
func TestT1Errors(t *testing.T) {
	x := broad(99, knot("b"))
	full, _ := grows(api.MaxGrown+1, x)
	rules := append(rulesOf(t, "k(X) X e e"), full)
	l := []api.Term{knot("e"), knot("h", x), parsed(t, "k(k(a))"), parsed(t, "g(k(k(b)),e)")}
	want := answer{texts: []string{"", "", "a", ""}, steps: 2, wrong: 3}
	for _, w := range sample.Wrongs() {
		l = append(l, w.Term, parsed(t, "k(c)"))
		want.texts = append(want.texts, "", "c")
		want.steps++
		want.wrong++
	}
	wanted(t, "all errors", rules, l, 9, want)
}
