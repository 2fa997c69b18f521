package pattern

import (
	"slices"
	"strconv"
	"strings"
	"testing"

	"metaprune/api"
	"metaprune/reduce"
	"metaprune/sample"
)

// firstStand: unknowns are told to calls that know none as constants from this one on.
const firstStand = 20

func standing(x api.Lam) api.Lam {
	out := api.Lam{Kind: x.Kind, Index: x.Index}
	if x.Kind == api.Meta {
		out = konst(firstStand + x.Index)
	}
	for _, s := range x.Subs {
		out.Subs = append(out.Subs, standing(s))
	}
	return out
}

func notStanding(x api.Lam) api.Lam {
	out := api.Lam{Kind: x.Kind, Index: x.Index}
	if x.Kind == api.Const && x.Index >= firstStand {
		out = meta(x.Index - firstStand)
	}
	for _, s := range x.Subs {
		out.Subs = append(out.Subs, notStanding(s))
	}
	return out
}

// replaced is x with terms for its unknowns, not worked out.
func replaced(x api.Lam, with []api.Lam) api.Lam {
	if x.Kind == api.Meta {
		return with[x.Index]
	}
	out := api.Lam{Kind: x.Kind, Index: x.Index}
	for _, s := range x.Subs {
		out.Subs = append(out.Subs, replaced(s, with))
	}
	return out
}

// plainPut is what Put makes of few knots, by calls of other layers.
func plainPut(x api.Lam, with []api.Lam, most int) (api.Lam, api.Errno) {
	y, _, e := reduce.Normal(standing(replaced(x, with)), 0, most)
	if e != api.OK {
		return api.Lam{}, e
	}
	y, e = reduce.Eta(y, 0)
	return notStanding(y), e
}

// areOne: do these terms make both sides of each goal one?
func areOne(t *testing.T, goals []api.Goal, with []api.Lam) bool {
	t.Helper()
	for _, g := range goals {
		a, e := plainPut(g.Left, with, api.MaxFuel)
		b, f := plainPut(g.Right, with, api.MaxFuel)
		if e != api.OK || f != api.OK {
			t.Fatalf("%s by %v: error %d, error %d", goalTexts(goals), textsOf(with), e, f)
		}
		if textOf(a) != textOf(b) {
			return false
		}
	}
	return true
}

// matcher: of each unknown the text of what was found for it, and how many names there
// are.
type matcher struct {
	found map[string]string
	names int
}

// comesOf: do special terms come of general ones, by something put for the unknowns of
// these?
func comesOf(general, special []api.Lam) bool {
	if len(general) != len(special) {
		return false
	}
	m := matcher{found: map[string]string{}}
	for i := range general {
		p := sample.WithNames(general[i], nil, &m.names)
		if !m.meets(p, sample.WithNames(standing(special[i]), nil, &m.names)) {
			return false
		}
	}
	return true
}

// meets has both sides be binders, or rows of one head, unless the first one is an
// unknown, applied to things.
func (m *matcher) meets(p, x sample.Named) bool {
	head, args := rowOf(p)
	if strings.HasPrefix(head.Name, "#5") {
		return m.finds(head.Name, args, x)
	}
	if len(p.Subs) == 1 || len(x.Subs) == 1 {
		m.names++
		name := sample.Named{Name: "v" + strconv.Itoa(m.names)}
		return m.meets(within(p, name), within(x, name))
	}
	other, others := rowOf(x)
	if head.Name != other.Name || len(args) != len(others) {
		return false
	}
	for i := range args {
		if !m.meets(args[i], others[i]) {
			return false
		}
	}
	return true
}

func rowOf(x sample.Named) (sample.Named, []sample.Named) {
	var args []sample.Named
	for len(x.Subs) == 2 {
		args = append([]sample.Named{x.Subs[1]}, args...)
		x = x.Subs[0]
	}
	return x, args
}

// within is a binder's Sub, or another term applied, for a thing of that name.
func within(x, name sample.Named) sample.Named {
	if len(x.Subs) == 1 {
		return x.Subs[0].Replace(x.Name, name)
	}
	return sample.Named{Subs: []sample.Named{x, name}}
}

// finds asks whether x stands for an unknown, applied to things, as it stood ahead.
func (m *matcher) finds(unknown string, args []sample.Named, x sample.Named) bool {
	for _, name := range freeNames(x, nil) {
		if !slices.ContainsFunc(args, func(a sample.Named) bool { return a.Name == name }) {
			return false
		}
	}
	for _, a := range slices.Backward(args) {
		x = sample.Named{Name: a.Name, Subs: []sample.Named{x}}
	}
	y, e := reduce.Eta(sample.WithoutNames(x, nil), 0)
	if e != api.OK {
		panic("a term that may not be")
	}
	text, ok := m.found[unknown]
	m.found[unknown] = textOf(y)
	return !ok || text == textOf(y)
}

// freeNames are the things that stand in x and are bound around it.
func freeNames(x sample.Named, inside []string) []string {
	switch len(x.Subs) {
	case 0:
		if x.Name[0] == '#' || slices.Contains(inside, x.Name) {
			return nil
		}
		return []string{x.Name}
	case 1:
		return freeNames(x.Subs[0], append(slices.Clone(inside), x.Name))
	}
	return append(freeNames(x.Subs[0], inside), freeNames(x.Subs[1], inside)...)
}

// alike: are they the same but for the order in which unknowns are applied to things?
func alike(a, b []api.Lam) bool { return comesOf(a, b) && comesOf(b, a) }

// drawer draws patterns, in which each unknown is applied to so many things.
type drawer struct {
	sample.Die
	many []int
}

// unknown is an unknown, applied to things, if there are as many around it.
func (d *drawer) unknown(under int) (api.Lam, bool) {
	i := d.Roll(len(d.many))
	if d.many[i] > under {
		return api.Lam{}, false
	}
	x := meta(i)
	for _, index := range d.some(d.many[i], under) {
		x = applied(x, bound(index))
	}
	return x, true
}

// some are so many numbers below a bound, no two the same.
func (d *drawer) some(many, below int) []int {
	var l []int
	for len(l) < many {
		if i := d.Roll(below); !slices.Contains(l, i) {
			l = append(l, i)
		}
	}
	return l
}

// pattern is one under so many binders; with no unknowns, if there are none.
func (d *drawer) pattern(deep, under int) api.Lam {
	if len(d.many) > 0 && d.Roll(3) == 0 {
		if x, ok := d.unknown(under); ok {
			return x
		}
	}
	if deep > 0 && d.Roll(3) == 0 {
		return binder(d.pattern(deep-1, under+1))
	}
	x := konst(d.Roll(2))
	if under > 0 && d.Roll(3) > 0 {
		x = bound(d.Roll(under))
	}
	for deep > 0 && d.Roll(2) == 0 {
		deep--
		x = applied(x, d.pattern(deep, under))
	}
	return x
}

// closedOnes are terms for the unknowns, without unknowns.
func (d *drawer) closedOnes(deep int) []api.Lam {
	var l []api.Lam
	for _, n := range d.many {
		inner := drawer{Die: sample.Die(d.Roll(1 << 30))}
		x, e := reduce.Eta(nested(n, inner.pattern(deep, n)), 0)
		if e != api.OK {
			panic("a term that may not be")
		}
		l = append(l, x)
	}
	return l
}

// known is a pattern with what stands for some of its unknowns, wherever they are.
func (d *drawer) known(x api.Lam, with []api.Lam) api.Lam {
	l := slices.Clone(with)
	for i := range l {
		if d.Roll(2) == 0 {
			l[i] = meta(i)
		}
	}
	y, e := plainPut(x, l, api.MaxFuel)
	if e != api.OK {
		panic("a term that may not be")
	}
	return y
}

// longer has some term below applied to what a binder more binds.
func (d *drawer) longer(x api.Lam) api.Lam {
	if d.Roll(6) == 0 && x.Kind != api.Lambda {
		return binder(applied(raised(x, 0), bound(0)))
	}
	out := api.Lam{Kind: x.Kind, Index: x.Index}
	for i, s := range x.Subs {
		if x.Kind == api.Lambda || i == 1 && headOf(x).Kind != api.Meta {
			s = d.longer(s)
		}
		out.Subs = append(out.Subs, s)
	}
	return out
}

func headOf(x api.Lam) api.Lam {
	for x.Kind == api.Apply {
		x = x.Subs[0]
	}
	return x
}

func raised(x api.Lam, deep int) api.Lam {
	out := api.Lam{Kind: x.Kind, Index: x.Index}
	if x.Kind == api.Bound && x.Index >= deep {
		out.Index++
	}
	if x.Kind == api.Lambda {
		deep++
	}
	for _, s := range x.Subs {
		out.Subs = append(out.Subs, raised(s, deep))
	}
	return out
}

// goals are some that may be, and terms that make both sides one, if there are such by
// the way in which they are made.
func (d *drawer) goals(sure bool) ([]api.Goal, []api.Lam) {
	for {
		d.many = nil
		for range 1 + d.Roll(4) {
			d.many = append(d.many, d.Roll(4))
		}
		with := d.closedOnes(2)
		var l []api.Goal
		for range 1 + d.Roll(3) {
			l = append(l, d.goal(with, sure))
		}
		if Check(len(d.many), l) == api.OK {
			return l, with
		}
	}
}

func (d *drawer) goal(with []api.Lam, sure bool) api.Goal {
	n := 1 + d.Roll(4)
	x := nested(n, d.pattern(3, n))
	y := nested(n, d.pattern(3, n))
	if sure {
		y = d.known(x, with)
		x = d.known(x, with)
	}
	if d.Roll(2) == 0 {
		x = d.longer(x)
	}
	if d.Roll(2) == 0 {
		y = d.longer(y)
	}
	return api.Goal{Left: x, Right: y}
}

// TestS3WordByWord: Put is replacing, Normal, Eta.
func TestS3WordByWord(t *testing.T) {
	d := drawer{Die: 3}
	told := map[api.Errno]int{}
	for range 3000 {
		x := d.Lam(5, 0, firstStand+3)
		var with []api.Lam
		for range 3 {
			with = append(with, notStanding(d.Lam(4, 0, firstStand+api.MaxMetas)))
		}
		x = notStanding(x)
		if sample.LamCount(replaced(x, with)) > api.MaxNodes {
			continue
		}
		most := d.Roll(12)
		want, f := plainPut(x, with, most)
		got, e := Put(x, with, most)
		if told[e]++; e != f || textOf(got) != textOf(want) {
			t.Fatalf("Put of %s by %v, at most %d: %s, error %d, want %s, error %d", textOf(x), textsOf(with), most, textOf(got), e, textOf(want), f)
		}
	}
	if told[api.OK] < 500 || told[api.ErrFuel] < 20 {
		t.Errorf("%v", told)
	}
}
