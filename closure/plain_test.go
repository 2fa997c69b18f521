package closure

import (
	"slices"
	"strings"
	"testing"

	"metaprune/api"
	"metaprune/sample"
)

// plain does word by word what the promise says, as slow as that may be: which
// terms are the same stands in a table, and is filled till nothing more comes.
type plain struct {
	terms []api.Term
	same  [][]bool
}

func plainOf(eqs []api.Pair, more ...api.Term) *plain {
	p := &plain{}
	for _, q := range eqs {
		p.add(q.Left)
		p.add(q.Right)
	}
	for _, t := range more {
		p.add(t)
	}
	for i := range p.terms {
		p.same = append(p.same, make([]bool, len(p.terms)))
		p.same[i][i] = true
	}
	for _, q := range eqs {
		p.note(p.find(q.Left), p.find(q.Right))
	}
	for p.pass() {
	}
	return p
}

func (p *plain) add(t api.Term) {
	if p.find(t) < 0 {
		p.terms = append(p.terms, t)
	}
	for _, a := range t.Args {
		p.add(a)
	}
}

func (p *plain) find(t api.Term) int {
	return slices.IndexFunc(p.terms, func(x api.Term) bool { return textOf(x) == textOf(t) })
}

func (p *plain) note(i, j int) bool {
	news := !p.same[i][j]
	p.same[i][j], p.same[j][i] = true, true
	return news
}

func (p *plain) pass() bool {
	news := false
	for i := range p.terms {
		for j := range p.terms {
			if p.same[i][j] {
				continue
			}
			third := slices.ContainsFunc(p.all(), func(k int) bool { return p.same[i][k] && p.same[k][j] })
			if third || p.isSameBelow(p.terms[i], p.terms[j]) {
				news = p.note(i, j) || news
			}
		}
	}
	return news
}

func (p *plain) all() []int {
	var l []int
	for i := range p.terms {
		l = append(l, i)
	}
	return l
}

func (p *plain) isSameBelow(a, b api.Term) bool {
	if a.Name != b.Name || len(a.Args) != len(b.Args) {
		return false
	}
	for i := range a.Args {
		if !p.same[p.find(a.Args[i])][p.find(b.Args[i])] {
			return false
		}
	}
	return true
}

func (p *plain) classes() string {
	var out []string
	for i := range p.terms {
		var l []string
		for j := range p.terms {
			if p.same[i][j] {
				l = append(l, textOf(p.terms[j]))
			}
		}
		slices.Sort(l)
		if l[0] == textOf(p.terms[i]) {
			out = append(out, strings.Join(l, "="))
		}
	}
	slices.SortFunc(out, func(a, b string) int {
		return slices.Compare(strings.Split(a, "="), strings.Split(b, "="))
	})
	return strings.Join(out, " ")
}

func TestJ1WordByWord(t *testing.T) {
	d := sample.Die(5)
	told := map[bool]int{}
	draw := func(deep int) api.Term { return d.Term(deep, "a", "b", "c", "f", "ab") }
	for range 1200 {
		var eqs []api.Pair
		for range d.Roll(7) {
			eqs = append(eqs, eq(draw(d.Roll(3)), draw(d.Roll(3))))
		}
		a, b := draw(d.Roll(3)), draw(d.Roll(3))
		if l, e := Classes(eqs); textOfLists(l) != plainOf(eqs).classes() || e != api.OK {
			t.Fatalf("Classes of %s: %s, error %d, want %s", textOfEqs(eqs), textOfLists(l), e, plainOf(eqs).classes())
		}
		p := plainOf(eqs, a, b)
		want := p.same[p.find(a)][p.find(b)]
		if ok, e := Same(eqs, a, b); ok != want || e != api.OK {
			t.Fatalf("Same %s, %s by %s: %v, error %d, want %v", textOf(a), textOf(b), textOfEqs(eqs), ok, e, want)
		}
		told[want]++
	}
	if told[true] < 50 || told[false] < 50 {
		t.Errorf("told %v", told)
	}
}
