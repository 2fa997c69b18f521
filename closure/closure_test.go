package closure

import (
	"slices"
	"strconv"
	"strings"
	"testing"

	"metaprune/api"
	"metaprune/sample"
	"metaprune/term"
)

var (
	knot   = sample.Knot
	broad  = sample.Broad
	tower  = sample.Tower
	textOf = sample.Text
)

func parsed(t *testing.T, text string) api.Term {
	t.Helper()
	x, e := term.Parse(text)
	if e != api.OK {
		t.Fatalf("Parse(%q): error %d", text, e)
	}
	return x
}

// eqsOf reads equations, "h(a)=b f(a,b)=c".
func eqsOf(t *testing.T, text string) []api.Pair {
	t.Helper()
	var l []api.Pair
	for _, w := range strings.Fields(text) {
		left, right, _ := strings.Cut(w, "=")
		l = append(l, eq(parsed(t, left), parsed(t, right)))
	}
	return l
}

func eq(left, right api.Term) api.Pair { return api.Pair{Left: left, Right: right} }

func textOfEqs(eqs []api.Pair) string {
	var out []string
	for _, q := range eqs {
		out = append(out, textOf(q.Left)+"="+textOf(q.Right))
	}
	return strings.Join(out, " ")
}

func textOfLists(lists [][]string) string {
	var out []string
	for _, l := range lists {
		out = append(out, strings.Join(l, "="))
	}
	return strings.Join(out, " ")
}

// refused: all calls say this error of equations, and nothing else, whatever the
// terms are.
func refused(t *testing.T, what string, eqs []api.Pair, want api.Errno) {
	t.Helper()
	if e := Check(eqs); e != want {
		t.Errorf("Check of %s: error %d, want %d", what, e, want)
	}
	for _, x := range []api.Term{knot("a"), knot("X"), knot(""), sample.Endless()} {
		if ok, e := Same(eqs, x, x); ok || e != want {
			t.Errorf("Same of %s: %v, error %d, want %d", what, ok, e, want)
		}
	}
	if l, e := Classes(eqs); len(l) != 0 || e != want {
		t.Errorf("Classes of %s: %v, error %d, want %d", what, l, e, want)
	}
}

// chain are so many equations, a0 and a1, a1 and a2, ..
func chain(many int) []api.Pair {
	var l []api.Pair
	for i := range many {
		l = append(l, eq(knot("a"+strconv.Itoa(i)), knot("a"+strconv.Itoa(i+1))))
	}
	return l
}

func TestJ1EquationsThatMayBe(t *testing.T) {
	for _, l := range [][]api.Pair{
		nil,
		{},
		chain(api.MaxList),
		{eq(broad(api.MaxNodes-1, knot("a")), tower(api.MaxNodes-1, knot("a")))},
		{eq(knot("abcdefgh"), knot("aX"))},
	} {
		if e := Check(l); e != api.OK {
			t.Errorf("Check of %s: error %d", textOfEqs(l), e)
		}
	}
}

func TestJ1EquationsThatMayNotBe(t *testing.T) {
	for _, w := range sample.Wrongs() {
		refused(t, w.What+" on the left", []api.Pair{eq(w.Term, knot("a"))}, w.Errno)
		refused(t, w.What+" on the right", []api.Pair{eq(knot("a"), w.Term)}, w.Errno)
	}
	refused(t, "MaxList + 1", chain(api.MaxList+1), api.ErrLimit)
	for _, s := range []string{"X=a", "a=X", "f(a,h(X))=a", "a=g(b,X)", "a=b b=c c=h(X)", "X=X"} {
		refused(t, s, eqsOf(t, s), api.ErrOpen)
	}
	last := chain(api.MaxList)
	last[api.MaxList-1].Right = knot("X")
	refused(t, "a variable at the end", last, api.ErrOpen)
}

// What else is wrong anywhere is told ahead of a variable.
func TestJ1TheFirstThatIsWrong(t *testing.T) {
	open := eq(knot("X"), knot("Y"))
	for _, w := range sample.Wrongs() {
		refused(t, "X=Y, then "+w.What, []api.Pair{open, eq(knot("a"), w.Term)}, w.Errno)
		refused(t, "X and "+w.What, []api.Pair{eq(knot("X"), w.Term)}, w.Errno)
	}
	many := chain(api.MaxList + 1)
	many[0] = eq(knot("X"), knot(""))
	refused(t, "MaxList + 1, the first one wrong", many, api.ErrLimit)
	refused(t, "a name, then a form", []api.Pair{eq(knot(""), knot("X", knot("a")))}, api.ErrName)
	refused(t, "a form, then a name", []api.Pair{eq(knot("X", knot("a")), knot(""))}, api.ErrForm)
}

func TestJ1TermsThatMayNotBe(t *testing.T) {
	a, open := knot("a"), knot("f", knot("a"), knot("X"))
	type wrong struct {
		what string
		a, b api.Term
		want api.Errno
	}
	cases := []wrong{
		{"a variable in the first", open, a, api.ErrOpen},
		{"a variable in the second", a, open, api.ErrOpen},
		{"a variable", knot("X"), knot("X"), api.ErrOpen},
	}
	for _, w := range sample.Wrongs() {
		cases = append(cases,
			wrong{w.What + " first", w.Term, a, w.Errno},
			wrong{w.What + " second", a, w.Term, w.Errno},
			wrong{w.What + " behind a variable", open, w.Term, api.ErrOpen},
			wrong{w.What + " ahead of a variable", w.Term, open, w.Errno},
			wrong{w.What + " ahead of no name", w.Term, knot(""), w.Errno})
	}
	for _, c := range cases {
		for _, l := range [][]api.Pair{nil, chain(3)} {
			if ok, e := Same(l, c.a, c.b); ok || e != c.want {
				t.Errorf("Same, %s: %v, error %d, want %d", c.what, ok, e, c.want)
			}
		}
	}
}

func TestJ1Same(t *testing.T) {
	for _, c := range []struct{ what, eqs, yes, no string }{
		{"no equations", "", "a=a f(a,b)=f(a,b)", "a=b f(a,b)=f(b,a) h(a)=a h(a)=k(a) f(a)=f(a,a)"},
		{"the two of one", "f(a,b)=c", "f(a,b)=c c=f(a,b)", "f(a,b)=f(b,a) a=c a=b"},
		{"a third one", "a=b b=c d=c e=d g=i", "a=c a=e e=b g=i", "a=g e=i"},
		{"terms below", "a=b", "h(a)=h(b) f(a,b)=f(b,a) f(h(a),a)=f(h(b),b)", "h(a)=a f(a,a)=f(a) f(a,a)=g(a,a) h(a)=k(a)"},
		{"terms below that become the same", "a=b h(a)=c h(b)=d", "c=d k(c)=k(d)", "a=c"},
		{"above, and above that", "a=b f(h(a),c)=d f(h(b),c)=e", "d=e", "d=c"},
		{"the document's own", "h(h(h(a)))=a h(h(h(h(h(a)))))=a", "h(a)=a h(h(a))=h(h(h(h(h(h(h(a)))))))", "a=b h(b)=b"},
		{"every third", "h(h(h(a)))=a", "h(h(h(h(h(h(a))))))=a h(h(h(h(a))))=h(a)", "h(a)=a h(h(a))=a h(h(h(h(a))))=a"},
		{"nothing from above to below", "h(a)=h(b)", "h(h(a))=h(h(b))", "a=b f(a,c)=f(b,c)"},
		{"one within itself", "f(a,b)=a", "f(f(f(a,b),b),b)=a f(f(a,b),b)=f(a,b)", "f(b,a)=a b=a f(a,f(a,b))=a"},
		{"another number below", "a=b f(a)=c f(b,b)=d f=e", "f(b)=c f(a,a)=d", "c=d c=e d=e f=c f(a)=f(a,a)"},
		{"names that begin alike", "a=a1 a12=b", "h(a)=h(a1)", "a=a12 a1=a12 h(a1)=h(a12)"},
		{"terms that stand in none", "a=b", "g(c,h(a))=g(c,h(b)) zz=zz", "g(c,h(a))=g(d,h(b)) zz=zy"},
		{"an equation twice, and turned", "a=b a=b b=a a=a", "a=b", "a=c"},
		{"two steps apart", "f(a,b)=a f(a,c)=d b=c", "a=d f(d,c)=a f(d,b)=d", "b=d a=b"},
	} {
		eqs := eqsOf(t, c.eqs)
		for _, q := range eqsOf(t, c.yes) {
			if ok, e := Same(eqs, q.Left, q.Right); !ok || e != api.OK {
				t.Errorf("%s: Same %s: %v, error %d", c.what, textOfEqs([]api.Pair{q}), ok, e)
			}
		}
		for _, q := range eqsOf(t, c.no) {
			if ok, e := Same(eqs, q.Left, q.Right); ok || e != api.OK {
				t.Errorf("%s: Same %s: %v, error %d", c.what, textOfEqs([]api.Pair{q}), ok, e)
			}
		}
	}
}

func TestJ1Classes(t *testing.T) {
	for _, c := range []struct{ what, eqs, want string }{
		{"none", "", ""},
		{"one", "a=b", "a=b"},
		{"one, turned", "b=a", "a=b"},
		{"the same on both sides", "a=a", "a"},
		{"the document's own", "h(h(h(a)))=a h(h(h(h(h(a)))))=a", "a=h(a)=h(h(a))=h(h(h(a)))=h(h(h(h(a))))=h(h(h(h(h(a)))))"},
		{"all within", "f(h(a),b)=g(c,h(a))", "a b c f(h(a),b)=g(c,h(a)) h(a)"},
		{"each once", "f(a,a)=a a=f(a,a) h(a)=h(a)", "a=f(a,a) h(a)"},
		{"below and above", "a=b h(a)=c k(h(b))=d", "a=b c=h(a)=h(b) d=k(h(b))"},
		{"byte by byte", "z=aa a1=b a=c aZ=d ab=e", "a=c a1=b aZ=d aa=z ab=e"},
		{"brackets ahead of letters", "ha=h(a) h=k", "a h=k h(a)=ha"},
		{"another number below", "f=a f(a)=b f(a,a)=c", "a=f b=f(a) c=f(a,a)"},
	} {
		l, e := Classes(eqsOf(t, c.eqs))
		if textOfLists(l) != c.want || e != api.OK {
			t.Errorf("%s: Classes of %s: %s, error %d, want %s", c.what, c.eqs, textOfLists(l), e, c.want)
		}
	}
}

// Names end in digits, and there are many terms: none is taken for another one.
func TestJ1ManyTermsApart(t *testing.T) {
	row := func(name string, many int, below func(i int) []api.Term) api.Term {
		x := knot(name)
		for i := range many {
			x.Args = append(x.Args, knot("g", below(i)...))
		}
		return x
	}
	var eqs []api.Pair
	for i := range api.MaxList {
		a := knot("a" + strconv.Itoa(i))
		two := row("l", 40, func(j int) []api.Term { return []api.Term{a, knot("a" + strconv.Itoa(j))} })
		one := row("r", 40, func(j int) []api.Term { return []api.Term{knot("g"+strconv.Itoa(j), a)} })
		eqs = append(eqs, eq(two, one))
	}
	l, e := Classes(eqs)
	for _, c := range l {
		if len(c) > 1 && !strings.HasPrefix(c[0], "l") {
			t.Fatalf("Classes: the same: %v", c)
		}
	}
	// 40 of a, as many equations; of g above two, of gN, and of g above that 40 times 40 each
	if len(l) != 40+40+3*40*40 || e != api.OK {
		t.Errorf("Classes: %d, error %d", len(l), e)
	}
}

// Terms of MaxNodes knots, MaxList equations of them: the greatest that is given.
func greatest(below api.Term) []api.Pair {
	var l []api.Pair
	for i := range api.MaxList {
		x := knot("a" + strconv.Itoa(i))
		l = append(l, eq(tower(api.MaxNodes-1, x), tower(api.MaxNodes-2, knot("k", below))))
	}
	return l
}

func TestJ1OfMaxNodes(t *testing.T) {
	eqs := greatest(knot("b"))
	for i := range api.MaxList {
		x := tower(api.MaxNodes-1, knot("a"+strconv.Itoa(i)))
		if ok, e := Same(eqs, x, tower(api.MaxNodes-1, knot("a0"))); !ok || e != api.OK {
			t.Errorf("Same: %v, error %d", ok, e)
		}
		if ok, e := Same(eqs, x.Args[0], tower(api.MaxNodes-2, knot("a0"))); ok != (i == 0) || e != api.OK {
			t.Errorf("Same, one h less: %v, error %d", ok, e)
		}
	}
	l, e := Classes(eqs)
	if e != api.OK || len(l) != api.MaxList*(api.MaxNodes-1)+api.MaxNodes {
		t.Errorf("Classes: %d, error %d", len(l), e)
	}
}

func TestZ1EndsSoon(t *testing.T) {
	wide := func(name string) api.Term {
		x := knot(name)
		for i := range api.MaxNodes - 1 {
			x.Args = append(x.Args, knot("a"+strconv.Itoa(i)))
		}
		return x
	}
	var all []api.Pair
	for i := range 20 {
		all = append(all, eq(wide("f"+strconv.Itoa(i)), wide("g"+strconv.Itoa(i))))
	}
	for i := range 20 {
		all = append(all, eq(knot("a"+strconv.Itoa(i)), knot("a"+strconv.Itoa(2*i+1))))
	}
	long := greatest(knot("b"))
	long[0] = eq(knot("h", knot("a1")), knot("a1"))
	for _, l := range [][]api.Pair{all, long, append(slices.Clone(long[:39]), eq(knot("a1"), knot("b")))} {
		for range 5 {
			if _, e := Classes(l); e != api.OK {
				t.Errorf("Classes: error %d", e)
			}
		}
		for range 20 {
			if _, e := Same(l, wide("f0"), wide("g1")); e != api.OK {
				t.Errorf("Same: error %d", e)
			}
		}
	}
}

func TestZ2FreshMemory(t *testing.T) {
	eqs := eqsOf(t, "f(h(a),b)=g(a,c) a=b c=a")
	before := textOfEqs(eqs)
	first, _ := Classes(eqs)
	want := textOfLists(first)
	for _, l := range first {
		_ = append(l, "spoilt")
		for i := range l {
			l[i] = "spoilt"
		}
	}
	for i, l := range first {
		if strings.Join(l, "") != strings.Repeat("spoilt", len(l)) {
			t.Errorf("list %d shares memory with another one: %v", i, l)
		}
	}
	a, b := parsed(t, "f(h(c),c)"), parsed(t, "g(b,b)")
	if ok, e := Same(eqs, a, b); !ok || e != api.OK {
		t.Errorf("Same: %v, error %d", ok, e)
	}
	if textOfEqs(eqs) != before || textOf(a) != "f(h(c),c)" || textOf(b) != "g(b,b)" {
		t.Errorf("written into: %s, %s, %s", textOfEqs(eqs), textOf(a), textOf(b))
	}
	if again, _ := Classes(eqs); textOfLists(again) != want {
		t.Errorf("Classes once more: %s, want %s", textOfLists(again), want)
	}
}

func TestZ2NothingBeyond(t *testing.T) {
	l := eqsOf(t, "a=b b=X")
	if s, e := Classes(l[:1]); textOfLists(s) != "a=b" || e != api.OK {
		t.Errorf("Classes: %s, error %d", textOfLists(s), e)
	}
	x := broad(3, knot("a"))
	x.Args[2] = knot("")
	x.Args = x.Args[:2]
	if ok, e := Same(l[:1], x, broad(2, knot("b"))); !ok || e != api.OK {
		t.Errorf("Same: %v, error %d", ok, e)
	}
}
