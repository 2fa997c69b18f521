package work

import (
	"runtime"
	"slices"
	"strconv"
	"strings"
	"sync"
	"testing"

	"metaprune/api"
	"metaprune/rewrite"
	"metaprune/sample"
)

// oneByOne: T1, word by word, by one hand.
func oneByOne(rules []api.Pair, l []api.Term, most int) answer {
	var a answer
	for _, x := range l {
		y, n, e := rewrite.Inner(rules, x, most)
		if e != api.OK {
			a.texts = append(a.texts, "")
			a.wrong++
			continue
		}
		a.texts = append(a.texts, textOf(y))
		a.steps += n
	}
	return a
}

// drawnRules are some of which not all come to an end, and some make terms greater.
func drawnRules(d *sample.Die) []api.Pair {
	x, y := knot("X"), knot("Y")
	lefts := []api.Term{knot("h", x), knot("k", knot("h", x)), knot("f", x, y), knot("f", knot("h", x), y), knot("b")}
	var rules []api.Pair
	for range 1 + d.Roll(3) {
		left := lefts[d.Roll(len(lefts))]
		leaves := []string{"a", "c"}
		for _, name := range []string{"X", "Y"} {
			if strings.Contains(textOf(left), name) {
				leaves = append(leaves, name, name)
			}
		}
		rules = append(rules, rule(left, d.Term(d.Roll(3), leaves...)))
	}
	return rules
}

// drawnTerms are some of which one in ten may not be.
func drawnTerms(d *sample.Die) []api.Term {
	var l []api.Term
	for range d.Roll(api.MaxList + 1) {
		l = append(l, d.Term(3+d.Roll(3), "X", "a", "b", "c"))
		if d.Roll(10) == 0 {
			l[len(l)-1] = sample.Wrongs()[d.Roll(4)].Term
		}
	}
	return l
}

func TestT1WordByWord(t *testing.T) {
	d := sample.Die(19)
	told := map[string]int{}
	for range 400 {
		rules, l, most := drawnRules(&d), drawnTerms(&d), d.Roll(60)
		want := oneByOne(rules, l, most)
		wanted(t, "drawn", rules, l, most, want)
		if t.Failed() {
			t.Fatalf("rules %v; terms %v; %d steps", rules, l, most)
		}
		if want.wrong > 0 && want.wrong < len(l) {
			told["some are errors"]++
		}
		if want.wrong == 0 && len(l) > 0 {
			told["none is"]++
		}
		if want.steps > 50 {
			told["many steps"]++
		}
	}
	for _, what := range []string{"some are errors", "none is", "many steps"} {
		if told[what] < 5 {
			t.Errorf("%s: just %d times", what, told[what])
		}
	}
}

// Where the first terms take long the last ones are done ahead of them: that is
// not to be seen.
func TestT1AlwaysTheSame(t *testing.T) {
	rules := rulesOf(t, "f(h(X),Y) h(f(X,Y)) e e k(X) X")
	var l []api.Term
	for i := range api.MaxList {
		l = append(l, knot("g", lifted(20-i/2, 20-i/3), knot("c"+strconv.Itoa(i))))
	}
	l[3], l[30] = knot("e"), sample.Endless()
	want := oneByOne(rules, l, api.MaxFuel)
	if want.wrong != 2 || want.steps < 4000 {
		t.Fatalf("not what is asked for: %s", want)
	}
	for range 20 {
		wanted(t, "again", rules, l, api.MaxFuel, want)
	}
	slices.Reverse(l)
	slices.Reverse(want.texts)
	wanted(t, "from the end on", rules, l, api.MaxFuel, want)
}

// Many call at once, of the same lists.
func TestT1CalledAtOnce(t *testing.T) {
	rules, l := rulesOf(t, "f(a,X) X f(h(X),Y) h(f(X,Y))"), termsOf(t, "f(h(h(a)),b) a f(f(h(a),a),c) h(X)")
	want := oneByOne(rules, l, 9)
	var callers sync.WaitGroup
	got := make([]answer, 30)
	for i := range got {
		callers.Go(func() { got[i] = ends(rules, l, 9, 1+i%api.MaxHands) })
	}
	callers.Wait()
	for i, a := range got {
		if !a.is(want) {
			t.Errorf("caller %d: %s, want %s", i, a, want)
		}
	}
}

// No hand is left when a call has answered, whatever it answered.
func TestZ1HandsEnd(t *testing.T) {
	rules, l := rulesOf(t, "h(X) X e e"), termsOf(t, "h(a) e b h(h(h(b)))")
	before := runtime.NumGoroutine()
	for i := range 400 {
		ends(rules, l, 9, api.MaxHands)
		ends(rules, nil, 9, 1+i%api.MaxHands)
		ends(rules, []api.Term{{}}, 9, api.MaxHands)
		ends(rules, l, 9, api.MaxHands+1)
	}
	// A hand that has said it is done may still be on its way out: but not many.
	if after := runtime.NumGoroutine(); after > before+2*api.MaxHands {
		t.Errorf("%d goroutines, %d before", after, before)
	}
}

// As much to do as there can be: great rules that nearly fit, and endless steps.
func TestZ1EndsSoon(t *testing.T) {
	rules := rulesOf(t, "k(X) k(X)")
	for len(rules) < api.MaxList {
		rules = append(rules, rule(tower(198, knot("z")), tower(198, knot("a"))))
	}
	l := manyTerms(api.MaxList, knot("g", tower(190, knot("a")), parsed(t, "k(a)")))
	want := answer{texts: make([]string, api.MaxList), wrong: api.MaxList}
	for _, hands := range []int{1, api.MaxHands} {
		if got := ends(rules, l, api.MaxFuel, hands); !got.is(want) {
			t.Errorf("%d hands: %s, want %s", hands, got, want)
		}
	}
}

func TestZ2Unchanged(t *testing.T) {
	rules, l := rulesOf(t, "h(X) g(X,k(a,b),X) c f(a,b)"), termsOf(t, "f(h(g(a,b)),c,g(b,a)) X c")
	was := func() string {
		out := sample.Texts(l)
		for _, r := range rules {
			out = append(out, textOf(r.Left), textOf(r.Right))
		}
		return strings.Join(out, " ")
	}
	before := was()
	want := answer{texts: []string{"f(g(g(a,b),k(a,b),g(a,b)),f(a,b),g(b,a))", "X", "f(a,b)"}, steps: 3}
	wanted(t, "all", rules, l, 9, want)
	if was() != before {
		t.Fatalf("written into: %s, was %s", was(), before)
	}
	first, second := ends(rules, l, 9, 3), ends(rules, l, 9, 3)
	for i := range first.texts {
		first.texts[i] = "spoilt"
	}
	if !second.is(want) || was() != before || !ends(rules, l, 9, 3).is(want) {
		t.Errorf("shares memory: %s, %s", second, was())
	}
}

// What stands behind a list in memory isn't read: more rules, terms, terms below.
func TestZ2NothingBeyond(t *testing.T) {
	rules := append(rulesOf(t, "a b b c"), api.Pair{})
	below := []api.Term{knot("a"), knot("X", knot("a"))}
	l := []api.Term{{Name: "h", Args: below[:1]}, knot("a"), {}}
	wanted(t, "pieces", rules[:1], l[:2], 9, answer{texts: []string{"h(b)", "b"}, steps: 2})
	wanted(t, "no rules", rules[:0], l[:2], 9, answer{texts: []string{"h(a)", "a"}})
	wanted(t, "no terms", rules[:1], l[:0], 9, answer{})
	if textOf(knot("f", below...)) != "f(a,X(a))" || l[2].Name != "" || len(l[2].Args) != 0 {
		t.Errorf("written into: %v, %v", below, l)
	}
}
