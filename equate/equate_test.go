package equate

import (
	"strconv"
	"strings"
	"testing"

	"metaprune/api"
	"metaprune/sample"
)

var knot = sample.Knot

func textOf(s []api.Bind) string {
	var l []string
	for _, b := range s {
		l = append(l, b.Name+":"+sample.Text(b.Term))
	}
	return strings.Join(l, " ")
}

func variable(n int) api.Term { return knot("V" + strconv.Itoa(n)) }

// drawn are equations, often more of them than a list that is given has: of each
// variable what it is made of, sometimes of another one twice, so that it grows; turned
// or not, one behind the other or not; and some that may not hold.
func drawn(d *sample.Die) []api.Pair {
	var l []api.Pair
	twice, odd := 2+d.Roll(20), 20+d.Roll(400)
	for i := range d.Roll(3 * api.MaxList) {
		p := api.Pair{Left: variable(i), Right: knot("f", variable(i+1), variable(200+d.Roll(50)))}
		if d.Roll(twice) == 0 {
			p.Right.Args[1] = variable(i + 1)
		}
		if d.Roll(odd) == 0 {
			p.Right.Args[d.Roll(2)] = d.Term(2, "V1", "V9", "V20", "V210", "a")
		}
		if d.Roll(3) == 0 {
			p.Left, p.Right = p.Right, p.Left
		}
		l = append(l, p)
	}
	for range d.Roll(2) * len(l) {
		i, j := d.Roll(len(l)), d.Roll(len(l))
		l[i], l[j] = l[j], l[i]
	}
	if d.Roll(3) == 0 {
		l = append(l, api.Pair{Left: variable(d.Roll(20)), Right: variable(d.Roll(20))})
	}
	if d.Roll(3) == 0 {
		l = append(l, api.Pair{Left: d.Term(2, "V1", "V210", "a"), Right: d.Term(2, "V1", "V210", "a")})
	}
	return l
}

func TestManyEquationsWordByWord(t *testing.T) {
	d := sample.Die(53)
	told := map[api.Errno]int{}
	many := 0
	for range 200 {
		l := drawn(&d)
		s, e := Solve(l)
		r, f := sample.Unify(l)
		if e != f || textOf(s) != textOf(r) {
			t.Fatalf("Solve of %v: error %d %s, want %d %s", l, e, textOf(s), f, textOf(r))
		}
		told[e]++
		if e == api.OK && len(l) > api.MaxList {
			many++
		}
	}
	for _, e := range []api.Errno{api.OK, api.ErrClash, api.ErrOccurs, api.ErrFull} {
		if told[e] < 10 {
			t.Errorf("error %d is told just %d times", e, told[e])
		}
	}
	if many < 10 {
		t.Errorf("just %d were many", many)
	}
}

// Terms may have more knots than one that is given, up to MaxGrown.
func TestGreatTerms(t *testing.T) {
	for more, want := range []api.Errno{api.OK, api.ErrFull} {
		x := sample.Broad(api.MaxGrown-2+more, knot("a"))
		x.Args = append(x.Args, knot("X"))
		l := []api.Pair{{Left: knot("X"), Right: knot("b")}, {Left: knot("Y"), Right: x}}
		s, e := Solve(l)
		r, f := sample.Unify(l)
		if e != want || f != want || textOf(s) != textOf(r) {
			t.Errorf("%d more: error %d, %d, want %d", more, e, f, want)
		}
	}
}
