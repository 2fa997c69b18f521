package house

import (
	"strconv"
	"strings"

	"metaprune/api"
	"metaprune/closure"
	"metaprune/comb"
	"metaprune/complete"
	"metaprune/critical"
	"metaprune/general"
	"metaprune/infer"
	"metaprune/knots"
	"metaprune/match"
	"metaprune/order"
	"metaprune/reduce"
	"metaprune/rewrite"
	"metaprune/term"
	"metaprune/unify"
)

func (*book) size(g given) (string, api.Errno) {
	return strconv.Itoa(knots.Count(g.terms[0], api.MaxNodes)), api.OK
}

func (*book) vars(g given) (string, api.Errno) { return names(term.Names(g.terms[0])) }

func (*book) unify(g given) (string, api.Errno) {
	return bindings(unify.Unify([]api.Pair{g.pair()}))
}

// pair is a line's two terms.
func (g given) pair() api.Pair { return api.Pair{Left: g.terms[0], Right: g.terms[1]} }

func (*book) match(g given) (string, api.Errno) {
	l, ok, e := match.Match(g.terms[0], g.terms[1])
	if !ok {
		return yesOrNo(false, e)
	}
	return bindings(l, e)
}

func (*book) general(g given) (string, api.Errno) {
	t, _, _, e := general.General(g.terms[0], g.terms[1])
	return termText(t, e)
}

func (b *book) putRow(g given) (string, api.Errno) {
	if e := order.Check(g.words); e != api.OK {
		return "", e
	}
	b.row = g.words
	return done, api.OK
}

func (b *book) path(g given) (string, api.Errno) {
	return yesOrNo(order.Path(b.row, g.terms[0], g.terms[1]))
}

func (b *book) weight(g given) (string, api.Errno) {
	return yesOrNo(order.Weight(b.row, g.terms[0], g.terms[1]))
}

func (b *book) addRule(g given) (string, api.Errno) {
	rules := append(b.rules, g.pair())
	if e := rewrite.Check(rules); e != api.OK {
		return "", e
	}
	b.rules = rules
	return done, api.OK
}

func (b *book) inner(g given) (string, api.Errno) {
	return termBySteps(rewrite.Inner(b.rules, g.terms[0], g.number))
}

func (b *book) outer(g given) (string, api.Errno) {
	return termBySteps(rewrite.Outer(b.rules, g.terms[0], g.number))
}

func (b *book) reach(g given) (string, api.Errno) {
	texts, e := rewrite.Reach(b.rules, g.terms[0])
	return strings.Join(texts, " "), e
}

func (b *book) pairs(given) (string, api.Errno) { return pairs(critical.Pairs(b.rules)) }

func (b *book) join(g given) (string, api.Errno) { return yesOrNo(critical.Join(b.rules, g.number)) }

func (b *book) addEquation(g given) (string, api.Errno) {
	if len(b.equations) >= api.MaxList {
		return "", api.ErrLimit
	}
	b.equations = append(b.equations, g.pair())
	return done, api.OK
}

func (b *book) complete(g given) (string, api.Errno) {
	rules, e := complete.Complete(b.row, b.equations, g.number)
	if e != api.OK {
		return "", e
	}
	b.rules = rules
	return pairs(rules, api.OK)
}

func (b *book) same(g given) (string, api.Errno) {
	return yesOrNo(closure.Same(b.equations, g.terms[0], g.terms[1]))
}

func (b *book) classes(given) (string, api.Errno) { return classes(closure.Classes(b.equations)) }

func (b *book) clear(given) (string, api.Errno) {
	b.rules, b.equations, b.row = nil, nil, nil
	return done, api.OK
}

func (*book) run(g given) (string, api.Errno) { return termBySteps(comb.Run(g.terms[0], g.number)) }

func (*book) bracket(g given) (string, api.Errno) {
	return termText(comb.Bracket(g.words[0], g.terms[0]))
}

func (*book) lam(g given) (string, api.Errno) { return lamText(g.lam, api.OK) }

func (*book) normal(g given) (string, api.Errno) {
	return lamBySteps(reduce.Normal(g.lam, 0, g.number))
}

func (*book) eta(g given) (string, api.Errno) { return lamText(reduce.Eta(g.lam, 0)) }

func (*book) principal(g given) (string, api.Errno) { return typeText(infer.Principal(g.lam)) }

func (*book) comb(g given) (string, api.Errno) { return termText(comb.From(g.lam)) }
