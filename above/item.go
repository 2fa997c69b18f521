// Package above: which term is above another one, of terms (and by rows) that were
// asked already whether they may be. How many knots they have isn't asked: rules
// are made of terms that came out, too.
package above

import (
	"cmp"

	"metaprune/api"
	"metaprune/knots"
)

// Path: is a above b by paths?
func Path(row []string, a, b api.Term) bool {
	p := paths{ranks: ranksOf(row), asked: map[[2]int]answer{}}
	x, y := numbered(a, b)
	return p.above(x, y)
}

// Weight: is a above b by weights?
func Weight(row []string, a, b api.Term) bool {
	x, y := numbered(a, b)
	return ranksOf(row).heavier(x, y)
}

// item: a term that is told by its number: the same terms have the same one,
// others others, so that they needn't be gone through to be told apart.
type item struct {
	name   string
	args   []item
	number int
	size   int
}

// numbered gives numbers to two terms and to all within them.
func numbered(a, b api.Term) (x, y item) {
	numbers := map[string]int{}
	return number(a, numbers), number(b, numbers)
}

func number(t api.Term, numbers map[string]int) item {
	text := knots.Text(t)
	n, ok := numbers[text]
	if !ok {
		n = len(numbers)
		numbers[text] = n
	}
	out := item{name: t.Name, number: n, size: 1}
	for _, a := range t.Args {
		x := number(a, numbers)
		out.args = append(out.args, x)
		out.size += x.size
	}
	return out
}

func (x item) isVariable() bool { return knots.IsVariable(x.name) }

// firstUnlike is what stands at the first place below a and b, of one symbol,
// at which they are not the same; false: there is none.
func firstUnlike(a, b item) (x, y item, ok bool) {
	for i, x := range a.args {
		if y := b.args[i]; x.number != y.number {
			return x, y, true
		}
	}
	return item{}, item{}, false
}

// ranks: at which place of the row a symbol's name stands, from 1 on; so what
// isn't in it is below all that is.
type ranks map[string]int

func ranksOf(row []string) ranks {
	r := ranks{}
	for i, name := range row {
		r[name] = i + 1
	}
	return r
}

// compare tells whether a's symbol is less than b's (below 0), the same (0), or
// greater.
func (r ranks) compare(a, b item) int {
	return cmp.Or(
		cmp.Compare(r[a.name], r[b.name]),
		cmp.Compare(a.name, b.name),
		cmp.Compare(len(a.args), len(b.args)),
	)
}
