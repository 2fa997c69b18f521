package house

import (
	"strconv"
	"strings"
	"testing"

	"metaprune/api"
	"metaprune/comb"
	"metaprune/lambda"
	"metaprune/sample"
)

// twice is what comes of a text by a function of two of it, so often.
func twice(text string, often int, both func(x string) string) string {
	for range often {
		text = both(text)
	}
	return text
}

// tower is what opens brackets, so often, a text, and what closes them, as often.
func tower(open string, many int, x, shut string) string {
	return strings.Repeat(open, many) + x + strings.Repeat(shut, many)
}

// What comes out may have more than MaxNodes knots: it is told all the same.
func TestQ1GreatTerms(t *testing.T) {
	f := func(x string) string { return "f(" + x + "," + x + ")" }
	doubled := twice("a", 8, f)
	is(t, []string{"rule h(X) f(X,X)"}, "inner 8 "+tower("h(", 8, "a", ")"), "8 "+doubled)
	is(t, []string{"rule h(X) f(X,X)"}, "outer 255 "+tower("h(", 8, "a", ")"), "255 "+doubled)

	h := tower("h(", 40, "a", ")")
	ahead := []string{"rule g(X) " + broad(40, "X"), "rule g(" + h + ") a"}
	great := "f(" + strings.Repeat(h+",", 39) + h + ")"
	is(t, ahead, "pairs", "= "+great+">a a>"+great)

	left, right := doubling(7)
	var bindings []string
	for i := range 8 {
		bindings = append(bindings, "X"+digits(i)+":"+twice("a", i, func(x string) string { return "g(" + x + "," + x + ")" }))
	}
	is(t, nil, "unify "+left+" "+right, "= "+strings.Join(bindings, " "))
}

func TestQ1GreatTermsWithoutWhatIsBound(t *testing.T) {
	is(t, nil, "bracket X "+tower("ap(", 99, "X", ",a)"), tower("ap(ap(s,", 99, "i", "),ap(k,a))"))

	twin := tower("ap(ap(ap(s,i),i),", 7, "a", ")")
	is(t, nil, "run 400 "+twin, "381 "+twice("a", 7, func(x string) string { return "ap(" + x + "," + x + ")" }))
	is(t, nil, "run 380 "+twin, errorOf(api.ErrFuel))

	text := `\a.\b.\c.\d.\e.` + strings.Repeat("a b c d e ", 6) + "c1"
	x, e := lambda.Parse(text, nil)
	if e != api.OK {
		t.Fatalf("Parse: error %d", e)
	}
	y, e := comb.From(x)
	if e != api.OK || sample.Count(y) <= api.MaxNodes {
		t.Fatalf("From: %d knots, error %d", sample.Count(y), e)
	}
	is(t, nil, "comb "+text, sample.Text(y))
}

func TestQ1GreatLambdaTerms(t *testing.T) {
	self := tower(`(\y.y y) (`, 8, "c1", ")")
	want := "c1 c1"
	for range 7 {
		want += " (" + want + ")"
	}
	is(t, nil, "normal 255 "+self, "255 "+want)

	paired := tower(`(\x.\p.p x x) (`, 5, `\x.x`, ")")
	ty := "a0>a0"
	for i := range 5 {
		base := "a" + strconv.Itoa(i+1)
		ty = "((" + ty + ")>(" + ty + ")>" + base + ")>" + base
	}
	is(t, nil, "type "+paired, ty)
}
