package auto

import (
	"slices"
	"strconv"
	"strings"
	"testing"

	"metaprune/api"
	"metaprune/sample"
	"metaprune/term"
)

var (
	knot   = sample.Knot
	broad  = sample.Broad
	tower  = sample.Tower
	textOf = sample.Text
)

func parsed(t *testing.T, text string) api.Term {
	t.Helper()
	x, e := term.Parse(text)
	if e != api.OK {
		t.Fatalf("Parse(%q): error %d", text, e)
	}
	return x
}

// autoOf reads an automaton, "2; a>0 f01>1; 1": how many states; moves, with the
// states below behind the name; the last ones.
func autoOf(t *testing.T, text string) api.Auto {
	t.Helper()
	parts := strings.Split(text, ";")
	if len(parts) != 3 {
		t.Fatalf("autoOf(%q)", text)
	}
	a := api.Auto{States: digits(t, strings.TrimSpace(parts[0]))[0]}
	for _, w := range strings.Fields(parts[1]) {
		left, to, _ := strings.Cut(w, ">")
		name := strings.TrimRight(left, "0123456789")
		a.Moves = append(a.Moves, api.Move{Name: name, From: digits(t, left[len(name):]), To: digits(t, to)[0]})
	}
	for _, w := range strings.Fields(parts[2]) {
		a.Last = append(a.Last, digits(t, w)...)
	}
	return a
}

func digits(t *testing.T, text string) []int {
	t.Helper()
	var l []int
	for _, c := range text {
		if c < '0' || c > '9' {
			t.Fatalf("no digits: %q", text)
		}
		l = append(l, int(c-'0'))
	}
	return l
}

func textOfAuto(a api.Auto) string {
	var b strings.Builder
	b.WriteString(strconv.Itoa(a.States) + ";")
	for _, m := range a.Moves {
		b.WriteString(" " + m.Name)
		for _, s := range m.From {
			b.WriteString("," + strconv.Itoa(s))
		}
		b.WriteString(">" + strconv.Itoa(m.To))
	}
	b.WriteString(";")
	for _, s := range a.Last {
		b.WriteString(" " + strconv.Itoa(s))
	}
	return b.String()
}

// moves are so many, all of them the same.
func moves(many int, m api.Move) []api.Move { return slices.Repeat([]api.Move{m}, many) }

func isNoAuto(a api.Auto) bool { return a.States == 0 && len(a.Moves) == 0 && len(a.Last) == 0 }

func isNoTerm(t api.Term) bool { return t.Name == "" && len(t.Args) == 0 }

// even has the terms of a and h with an even number of h.
const even = "2; a>0 h0>1 h1>0; 0"

// wrong: an automaton that may not be, and what is wrong with it.
type wrong struct {
	what string
	a    api.Auto
	e    api.Errno
}

func wrongs() []wrong {
	leaf := api.Move{Name: "a"}
	of := func(states int, last []int, l ...api.Move) api.Auto {
		return api.Auto{States: states, Moves: l, Last: last}
	}
	move := func(name string, to int, from ...int) api.Move { return api.Move{Name: name, From: from, To: to} }
	out := []wrong{
		{"below 0 states", of(-1, nil), api.ErrLimit},
		{"far below 0 states", of(-1<<63, nil), api.ErrLimit},
		{"MaxStates + 1", of(api.MaxStates+1, nil), api.ErrLimit},
		{"far too many states", of(1<<62, nil, leaf), api.ErrLimit},
		{"MaxMoves + 1", of(1, nil, moves(api.MaxMoves+1, leaf)...), api.ErrLimit},
		{"five below", of(1, nil, move("f", 0, 0, 0, 0, 0, 0)), api.ErrLimit},
		{"To below 0", of(2, nil, move("a", -1)), api.ErrPlace},
		{"To beyond", of(2, nil, move("a", 2)), api.ErrPlace},
		{"To far beyond", of(2, nil, move("a", 1<<62)), api.ErrPlace},
		{"From below 0", of(2, nil, move("h", 0, -1)), api.ErrPlace},
		{"From beyond", of(2, nil, move("f", 0, 1, 2)), api.ErrPlace},
		{"the fourth of From beyond", of(2, nil, move("f", 0, 0, 1, 0, 2)), api.ErrPlace},
		{"a move without states", of(0, nil, leaf), api.ErrPlace},
		{"Last below 0", of(2, []int{-1}), api.ErrPlace},
		{"Last beyond", of(2, []int{0, 1, 2}), api.ErrPlace},
		{"Last without states", of(0, []int{0}), api.ErrPlace},

		{"states ahead of a name", of(9, nil, move("", 0)), api.ErrLimit},
		{"many moves ahead of a name", of(1, nil, moves(41, move("", 0))...), api.ErrLimit},
		{"a name ahead of five below", of(1, nil, move("X", 0, 0, 0, 0, 0, 0)), api.ErrName},
		{"a name ahead of To", of(1, nil, move("9", 1)), api.ErrName},
		{"five below ahead of From", of(1, nil, move("f", 0, 0, 0, 0, 0, 7)), api.ErrLimit},
		{"five below ahead of To", of(1, nil, move("f", 7, 0, 0, 0, 0, 0)), api.ErrLimit},
		{"the first move's To ahead of the next one's name", of(1, nil, move("a", 1), move("", 0)), api.ErrPlace},
		{"the first move's From ahead of five below the next one", of(1, nil, move("h", 0, 1), move("f", 0, 0, 0, 0, 0, 0)), api.ErrPlace},
		{"five below the first one ahead of the next one's name", of(1, nil, move("f", 0, 0, 0, 0, 0, 0), move("", 0)), api.ErrLimit},
		{"the first move's name ahead of five below the next one", of(1, nil, move("X", 0), move("f", 0, 0, 0, 0, 0, 0)), api.ErrName},
		{"a name ahead of Last", of(1, []int{1}, leaf, move("A", 0)), api.ErrName},
		{"five below ahead of Last", of(1, []int{-1}, move("f", 0, 0, 0, 0, 0, 0)), api.ErrLimit},
		{"states ahead of Last", of(9, []int{9}), api.ErrLimit},
	}
	for _, name := range []string{"", "X", "Xa", "9", "9a", "abcdefghi", "a b", "a_", "é", "a\x00", "f("} {
		out = append(out, wrong{"the name " + strconv.Quote(name), of(1, nil, leaf, move(name, 0)), api.ErrName})
	}
	return out
}

func TestK1AutomataThatMayBe(t *testing.T) {
	for what, a := range map[string]api.Auto{
		"none":                    {},
		"empty lists":             {Moves: []api.Move{}, Last: []int{}},
		"MaxStates":               {States: api.MaxStates, Moves: []api.Move{{Name: "a", To: 7}}, Last: []int{7}},
		"MaxMoves":                {States: 1, Moves: moves(api.MaxMoves, api.Move{Name: "h", From: []int{0}})},
		"four below":              {States: 2, Moves: []api.Move{{Name: "f", From: []int{1, 0, 1, 0}, To: 1}}},
		"a name of MaxName":       {States: 1, Moves: []api.Move{{Name: "abCD1234"}}},
		"no moves":                {States: 3, Last: []int{2, 0, 1}},
		"Last with states twice":  {States: 1, Last: make([]int, 1000)},
		"one name, other numbers": {States: 1, Moves: []api.Move{{Name: "f"}, {Name: "f", From: []int{0}}}},
	} {
		if e := Check(a); e != api.OK {
			t.Errorf("Check of %s: error %d", what, e)
		}
		if _, e := Accepts(a, knot("a")); e != api.OK {
			t.Errorf("Accepts of %s: error %d", what, e)
		}
	}
}

func TestK1AutomataThatMayNotBe(t *testing.T) {
	good := autoOf(t, even)
	for _, w := range wrongs() {
		if e := Check(w.a); e != w.e {
			t.Errorf("Check of %s: error %d, want %d", w.what, e, w.e)
		}
		if ok, e := Accepts(w.a, knot("a")); ok || e != w.e {
			t.Errorf("Accepts of %s: %v, error %d, want %d", w.what, ok, e, w.e)
		}
		if x, e := Some(w.a); !isNoTerm(x) || e != w.e {
			t.Errorf("Some of %s: %s, error %d, want %d", w.what, textOf(x), e, w.e)
		}
		if n, e := Least(w.a); n != 0 || e != w.e {
			t.Errorf("Least of %s: %d, error %d, want %d", w.what, n, e, w.e)
		}
		refusedBoth(t, w.what+" first", w.a, good, w.e)
		refusedBoth(t, w.what+" second", good, w.a, w.e)
		for _, v := range wrongs() {
			refusedBoth(t, w.what+", then "+v.what, w.a, v.a, w.e)
		}
	}
}

// refusedBoth asks all calls of two automata.
func refusedBoth(t *testing.T, what string, a, b api.Auto, want api.Errno) {
	t.Helper()
	if x, e := Both(a, b); !isNoAuto(x) || e != want {
		t.Errorf("Both of %s: %s, error %d, want %d", what, textOfAuto(x), e, want)
	}
	if x, e := Either(a, b); !isNoAuto(x) || e != want {
		t.Errorf("Either of %s: %s, error %d, want %d", what, textOfAuto(x), e, want)
	}
	if ok, e := Within(a, b); ok || e != want {
		t.Errorf("Within of %s: %v, error %d, want %d", what, ok, e, want)
	}
}

func TestK2TermsThatMayNotBe(t *testing.T) {
	a := autoOf(t, "1; a>0 f00>0; 0")
	for _, w := range sample.Wrongs() {
		if ok, e := Accepts(a, w.Term); ok || e != w.Errno {
			t.Errorf("Accepts of %s: %v, error %d, want %d", w.What, ok, e, w.Errno)
		}
		if ok, e := Accepts(a, knot("f", knot("X"), w.Term)); ok || e != w.Errno {
			t.Errorf("Accepts of a variable, then %s: %v, error %d, want %d", w.What, ok, e, w.Errno)
		}
		if ok, e := Accepts(api.Auto{States: 1, Last: []int{1}}, w.Term); ok || e != api.ErrPlace {
			t.Errorf("Accepts of a wrong automaton and %s: %v, error %d", w.What, ok, e)
		}
	}
	for _, s := range []string{"X", "f(a,X)", "f(f(a,Y),a)", "k(X)"} {
		if ok, e := Accepts(a, parsed(t, s)); ok || e != api.ErrOpen {
			t.Errorf("Accepts of %s: %v, error %d", s, ok, e)
		}
	}
}

func TestK2Accepts(t *testing.T) {
	for _, c := range []struct{ what, a, yes, no string }{
		{"the document's own", "2; a>0 h0>1 h1>0; 1", "h(a) h(h(h(a)))", "a h(h(a)) b h(b) k(a)"},
		{"an even number", even, "a h(h(a))", "h(a) h(h(h(a))) h a(a)"},
		{"no states", "0;;", "", "a f(a,a)"},
		{"no last", "1; a>0;", "", "a"},
		{"no moves", "1;;0", "", "a"},
		{"more than one end", "3; a>0 a>1 h0>2; 2 1", "a h(a)", "h(h(a)) b"},
		{"each must fit", "2; a>0 b>1 f01>0 g0011>1; 0", "a f(a,b) f(f(a,b),b) f(a,g(a,a,b,b))", "b f(b,a) f(a,a) f(b,b) g(a,a,b,b) f(a,g(a,b,a,b))"},
		{"other numbers below", "3; f>0 f0>1 f01>2; 2", "f(f,f(f))", "f f(f) f(f(f)) f(f,f) f(f(f),f) f(f,f(f),f)"},
		{"as many names", "2; a>0 a1>0 ab>1; 0", "a", "ab a1 b"},
		{"any of several moves", "2; a>0 b>1 f00>0 f01>0 f10>1; 0", "f(a,a) f(a,b) f(a,f(b,a))", "f(b,a) f(b,b)"},
		{"states in common just once each", "4; a>0 a>1 f01>2 f10>2 f22>3; 3", "f(f(a,a),f(a,a))", "f(a,a) f(a,f(a,a))"},
	} {
		a := autoOf(t, c.a)
		for want, words := range map[string]string{"yes": c.yes, "no": c.no} {
			for _, s := range strings.Fields(words) {
				if ok, e := Accepts(a, parsed(t, s)); ok != (want == "yes") || e != api.OK {
					t.Errorf("%s: Accepts of %s: %v, error %d", c.what, s, ok, e)
				}
			}
		}
	}
}

func TestK2AcceptsOfMaxNodes(t *testing.T) {
	a := autoOf(t, even)
	for many, want := range map[int]int{api.MaxNodes - 1: 0, api.MaxNodes - 2: 1} {
		if ok, e := Accepts(a, tower(many, knot("a"))); ok != (want == 1) || e != api.OK {
			t.Errorf("Accepts of %d h: %v, error %d", many, ok, e)
		}
	}
	if ok, e := Accepts(a, broad(api.MaxNodes-1, knot("a"))); ok || e != api.OK {
		t.Errorf("Accepts of many below: %v, error %d", ok, e)
	}
}

// All states of MaxStates are told apart.
func TestK2AcceptsByMaxStates(t *testing.T) {
	a := autoOf(t, "8; a>0 h0>1 h1>2 h2>3 h3>4 h4>5 h5>6 h6>7 h7>0; 7")
	for many := range 40 {
		if ok, e := Accepts(a, tower(many, knot("a"))); ok != (many%8 == 7) || e != api.OK {
			t.Errorf("Accepts of %d h: %v, error %d", many, ok, e)
		}
	}
}

func TestK2Some(t *testing.T) {
	for _, c := range []struct{ what, a, want string }{
		{"the document's own", "2; a>0 h0>1 h1>0; 1", "h(a)"},
		{"fewer knots", "2; a>0 f00>0 h0>1 h1>1 b>1; 1", "b"},
		{"of several last ones", "3; a>0 h0>1 k0>2; 2 1", "h(a)"},
		{"fewer knots in a later last one", "3; a>0 h0>1 h1>2 zz>0; 2 0", "a"},
		{"the first text", "1; c>0 b>0 a>0 ab>0; 0", "a"},
		{"a name that begins another one", "1; ab>0 a>0; 0", "a"},
		{"such names within", "2; ab>0 a>0 f00>1; 1", "f(a,a)"},
		{"such names at the end", "2; ab>0 aZ>0 h0>1; 1", "h(aZ)"},
		{"capitals ahead of small letters", "1; aa>0 aB>0; 0", "aB"},
		{"a bracket ahead of letters", "2; a>0 ha0>1 h0>1; 1", "h(a)"},
		{"as many knots, by other moves", "3; a>0 h0>1 f00>2 g1>2; 2", "f(a,a)"},
		{"as many knots, first by the one below", "4; a>0 b>1 f10>2 f01>2 f11>2; 2", "f(a,b)"},
		{"few knots ahead of the first text", "3; a>0 b>2 f0>1 f1>2 ; 2", "b"},
		{"a first text that is made later", "3; h1>2 b>1 a>0 c>1 i0>2; 2", "h(b)"},
		{"one that is found greater at first", "4; f3>2 f2>1 a>3 b>1 h1>0; 0", "h(b)"},
		{"four below", "2; a>0 f0000>1 h1>1; 1", "f(a,a,a,a)"},
		{"a state before it is there", "3; g12>0 h2>1 b>2; 0", "g(h(b),b)"},
	} {
		x, e := Some(autoOf(t, c.a))
		if textOf(x) != c.want || e != api.OK {
			t.Errorf("%s: Some: %s, error %d, want %s", c.what, textOf(x), e, c.want)
		}
	}
}

func TestK2SomeThereIsNone(t *testing.T) {
	for _, s := range []string{
		"0;;", "1;;0", "2; a>0; 1", "1; a>0;", "1; h0>0; 0", "2; a>0 h1>1; 1", "3; a>0 f01>2 f12>1; 1 2",
	} {
		if x, e := Some(autoOf(t, s)); !isNoTerm(x) || e != api.ErrNone {
			t.Errorf("Some of %s: %s, error %d", s, textOf(x), e)
		}
	}
}

// A term of MaxGrown knots is told, one of more is none.
func TestK2SomeOfMaxGrown(t *testing.T) {
	for _, c := range []struct {
		what, a string
		want    int
	}{
		{"1365", "6; a>0 f0000>1 f1111>2 f2222>3 f3333>4 f4444>5; 5", 1365},
		{"MaxGrown", "8; a>0 f000>1 f1111>2 f2210>3 f3332>4 f4443>5 f543>6 f5556>7; 7", api.MaxGrown},
		{"MaxGrown + 1", "8; a>0 f0000>1 f1110>2 f2210>3 f3211>4 f3333>5 f5555>6 f2666>7; 7", 0},
		{"four times as many", "7; a>0 f0000>1 f1111>2 f2222>3 f3333>4 f4444>5 f5555>6; 6", 0},
		{"sixteen times as many", "8; a>0 f0000>1 f1111>2 f2222>3 f3333>4 f4444>5 f5555>6 f6666>7; 7", 0},
		{"another last state", "7; a>0 f0000>1 f1111>2 f2222>3 f3333>4 f4444>5 f5555>6; 6 4", 341},
		{"fewer by a later move", "7; a>0 f0000>1 f1111>2 f2222>3 f3333>4 f4444>5 f5555>6 b>4; 6", 1 + 4*5},
	} {
		x, e := Some(autoOf(t, c.a))
		if c.want == 0 && (!isNoTerm(x) || e != api.ErrNone) {
			t.Errorf("Some, %s: %d knots, error %d, want none", c.what, sample.Count(x), e)
		}
		if c.want > 0 && (sample.Count(x) != c.want || e != api.OK) {
			t.Errorf("Some, %s: %d knots, error %d, want %d", c.what, sample.Count(x), e, c.want)
		}
	}
}

func TestK2BothAndEither(t *testing.T) {
	third := "3; a>0 h0>1 h1>2 h2>0; 0"
	for _, c := range []struct{ what, a, b, both, either, no string }{
		{"every sixth", even, third, "a hhhhhha", "a hha hhha hhhha hhhhhha", "ha hhhhha hhhhhhha"},
		{"the same", even, even, "a hha", "a hha", "ha"},
		{"none", even, "0;;", "", "a hha", "ha"},
		{"none first", "0;;", even, "", "a hha", "ha"},
		{"none at all", "0;;", "0;;", "", "", "a ha"},
		{"no last", even, "1; a>0 h0>0;", "", "a hha", "ha"},
		{"other symbols", even, "1; b>0 k0>0; 0", "", "a hha b kb kkb", "ha ka hb kha"},
		{"several ends", "2; a>0 a>1 h1>1; 0 1", "2; a>0 a>1 h1>0; 1 0", "a ha", "a ha hha", "hka"},
	} {
		a, b := autoOf(t, c.a), autoOf(t, c.b)
		both, e := Both(a, b)
		either, f := Either(a, b)
		if e != api.OK || f != api.OK {
			t.Errorf("%s: errors %d, %d", c.what, e, f)
		}
		for _, w := range strings.Fields(c.both + " " + c.either + " " + c.no) {
			x := towerOf(w)
			if ok := isIn(both, x); ok != slices.Contains(strings.Fields(c.both), w) {
				t.Errorf("%s: Both: %s is in it: %v", c.what, textOf(x), ok)
			}
			if ok := isIn(either, x); ok != slices.Contains(strings.Fields(c.either), w) {
				t.Errorf("%s: Either: %s is in it: %v", c.what, textOf(x), ok)
			}
		}
	}
}

// towerOf is the term of letters, each above the next one.
func towerOf(word string) api.Term {
	x := knot(word[len(word)-1:])
	for i := len(word) - 2; i >= 0; i-- {
		x = knot(word[i:i+1], x)
	}
	return x
}

// bounded asks what Both and Either must keep to, whatever they answer.
func bounded(t *testing.T, what string, x, a, b api.Auto) {
	t.Helper()
	if x.States < 0 || x.States > 64 || len(x.Moves) > 1600 {
		t.Errorf("%s: %d states, %d moves", what, x.States, len(x.Moves))
	}
	for _, m := range x.Moves {
		of := func(n api.Move) bool { return n.Name == m.Name && len(n.From) == len(m.From) }
		if !slices.ContainsFunc(a.Moves, of) && !slices.ContainsFunc(b.Moves, of) {
			t.Errorf("%s: a move of %s with %d below", what, m.Name, len(m.From))
		}
		for _, s := range append(slices.Clone(m.From), m.To) {
			if s < 0 || s >= x.States {
				t.Errorf("%s: a move with the state %d", what, s)
			}
		}
	}
	for _, s := range x.Last {
		if s < 0 || s >= x.States {
			t.Errorf("%s: a last state %d", what, s)
		}
	}
}

// The greatest that is given: MaxStates, MaxMoves, all of one symbol.
func TestK2BothAndEitherOfTheGreatest(t *testing.T) {
	a := api.Auto{States: api.MaxStates, Last: slices.Repeat([]int{0, 7}, 5000)}
	for i := range api.MaxMoves - 1 {
		a.Moves = append(a.Moves, api.Move{Name: "f", From: []int{i % 8, i / 8, 0, 1}, To: (i + 1) % 8})
	}
	a.Moves = append(a.Moves, api.Move{Name: "a", To: 7})
	one := api.Auto{States: api.MaxStates, Moves: moves(api.MaxMoves, api.Move{Name: "a", To: 7}), Last: []int{7}}
	for _, b := range []api.Auto{a, one} {
		for _, c := range []api.Auto{a, one} {
			both, e := Both(b, c)
			either, f := Either(b, c)
			if e != api.OK || f != api.OK {
				t.Errorf("errors %d, %d", e, f)
			}
			bounded(t, "Both", both, b, c)
			bounded(t, "Either", either, b, c)
			if !isIn(both, knot("a")) || !isIn(either, knot("a")) || isIn(both, knot("b")) || isIn(either, knot("b")) {
				t.Error("a is in both, and nothing else")
			}
			if len(both.Last) > 64 || len(either.Last) > 16 {
				t.Errorf("%d and %d last states", len(both.Last), len(either.Last))
			}
		}
	}
}

func TestK3Limits(t *testing.T) {
	good := autoOf(t, "3; a>0 f01>2; 2")
	for _, s := range []string{"4;;", "8; a>0; 0", "1; f000>0; 0", "3; a>0 f00>0 f0000>0; 0"} {
		bad := autoOf(t, s)
		if n, e := Least(bad); n != 0 || e != api.ErrLimit {
			t.Errorf("Least of %s: %d, error %d", s, n, e)
		}
		if ok, e := Within(bad, good); ok || e != api.ErrLimit {
			t.Errorf("Within of %s first: %v, error %d", s, ok, e)
		}
		if ok, e := Within(good, bad); ok || e != api.ErrLimit {
			t.Errorf("Within of %s second: %v, error %d", s, ok, e)
		}
		for _, w := range wrongs() {
			if ok, e := Within(bad, w.a); ok || e != w.e {
				t.Errorf("Within of %s, then %s: %v, error %d, want %d", s, w.what, ok, e, w.e)
			}
		}
	}
	for _, a := range []api.Auto{good, {}} {
		if _, e := Least(a); e != api.OK {
			t.Errorf("Least: error %d", e)
		}
		if ok, e := Within(a, a); !ok || e != api.OK {
			t.Errorf("Within itself: %v, error %d", ok, e)
		}
	}
}

func TestK3Within(t *testing.T) {
	all := "1; a>0 h0>0; 0"
	for _, c := range []struct {
		what, a, b string
		there      bool
		back       bool
	}{
		{"itself", even, even, true, true},
		{"all", even, all, true, false},
		{"none", "0;;", even, true, false},
		{"none by states", "2; a>0; 1", even, true, false},
		{"two that are none", "0;;", "1;;0", true, true},
		{"every third", "3; a>0 h0>1 h1>2 h2>0; 0", even, false, false},
		{"another symbol", "1; b>0; 0", all, false, false},
		{"another number below", "2; a>0 h00>1; 1", all, false, false},
		{"a symbol more", all, "1; a>0 h0>0 b>0; 0", true, false},
		{"a symbol more that leads nowhere", all, "2; a>0 h0>0 f10>0 b>1; 0", true, false},
		{"by many states what one does", "2; a>0 a>1 h0>1 h1>0; 0 1", all, true, true},
		{"any of several", "1; a>0 b>0 f00>0; 0", "2; a>0 b>1 f00>0 f01>1 f10>0 f11>1; 0 1", true, true},
		{"just one end of several", "2; a>0 a>1 h0>0; 0", "2; a>1 a>0 h1>1; 0", false, true},
		{"deep", "3; a>0 h0>1 h1>2 h2>2; 2", "3; a>0 h0>0 h0>1 h1>2; 2", true, true},
		{"two below", "2; a>0 b>1 f01>0; 0", "2; a>0 b>1 f01>0 f10>0; 0", true, false},
	} {
		a, b := autoOf(t, c.a), autoOf(t, c.b)
		if ok, e := Within(a, b); ok != c.there || e != api.OK {
			t.Errorf("%s: Within: %v, error %d", c.what, ok, e)
		}
		if ok, e := Within(b, a); ok != c.back || e != api.OK {
			t.Errorf("%s: Within, the other way round: %v, error %d", c.what, ok, e)
		}
	}
}

func TestK3Least(t *testing.T) {
	for _, c := range []struct {
		what, a string
		want    int
	}{
		{"the document's own", "2; a>0 h0>1 h1>0; 1", 2},
		{"no states", "0;;", 0},
		{"no terms", "1; h0>0 f00>0; 0", 0},
		{"no last: all alike", "2; a>0 h0>1 h1>0;", 1},
		{"all in it", "2; a>0 h0>1 h1>0; 0 1", 1},
		{"every third", "3; a>0 h0>1 h1>2 h2>0; 1", 3},
		{"all in it, by one state", "1; a>0 b>0 f00>0 h>0; 0", 1},
		{"what ends nowhere is another kind", "2; a>0 h0>1; 1", 3},
		{"what ends nowhere is like what leads nowhere", "3; a>0 h0>1 b>2 h2>2; 1", 3},
		{"a state that no term comes to", "3; a>0 h0>0 h1>2; 0 2", 1},
		{"two states that do the same", "3; a>0 b>1 h0>2 h1>2 h2>2; 2", 2},
		{"told apart by the first below", "2; a>0 b>1 f00>0 f01>0 f10>1 f11>1; 0", 2},
		{"told apart by the second below alone", "3; a>0 b>1 f00>2 f10>2 f02>0 f12>0 f22>0; 2", 4},
		{"one name, other numbers below", "3; f>0 f0>1 f01>2; 2", 4},
		{"the second sign from the front is h", "3; a>0 h0>0 k0>0 h0>1 h1>2 k1>2; 2", 4},
		{"all sets of three", "3; a>0 b>1 c>2 f00>0 f11>1 f22>2 g00>0 g11>0 g22>0 e>0 e>1 e>2 d>0 d>1 i>0 i>2 j>1 j>2; 0", 8},
	} {
		if n, e := Least(autoOf(t, c.a)); n != c.want || e != api.OK {
			t.Errorf("%s: Least: %d, error %d, want %d", c.what, n, e, c.want)
		}
	}
}

// Three states, MaxMoves of as many symbols with two below: the most there is to do.
func TestZ1EndsSoon(t *testing.T) {
	a := api.Auto{States: 3, Last: []int{2}}
	for s := range 3 {
		a.Moves = append(a.Moves, api.Move{Name: "a" + strconv.Itoa(s), To: s})
	}
	for i := range api.MaxMoves - 3 {
		m := api.Move{Name: "f" + strconv.Itoa(i), From: []int{i % 3, i / 3 % 3}, To: i / 9 % 3}
		a.Moves = append(a.Moves, m)
	}
	b := api.Auto{States: 3, Moves: slices.Clone(a.Moves), Last: []int{1}}
	slices.Reverse(b.Moves)
	for i := range b.Moves {
		b.Moves[i].Name = "f" + strconv.Itoa(i%7)
	}
	for range 20 {
		for _, x := range []api.Auto{a, b} {
			if _, e := Least(x); e != api.OK {
				t.Errorf("Least: error %d", e)
			}
			for _, y := range []api.Auto{a, b} {
				if _, e := Within(x, y); e != api.OK {
					t.Errorf("Within: error %d", e)
				}
			}
		}
	}
	great := autoOf(t, "8; a>0 f000>1 f1111>2 f2210>3 f3332>4 f4443>5 f543>6 f5556>7; 7")
	for range 40 - len(great.Moves) {
		great.Moves = append(great.Moves, api.Move{Name: "e", From: []int{6, 5, 5, 5}, To: 7})
	}
	great.Last = make([]int, 1<<20)
	for i := range great.Last {
		great.Last[i] = 7
	}
	if x, e := Some(great); x.Name != "e" || e != api.OK {
		t.Errorf("Some: %s, error %d", x.Name, e)
	}
}

// spoil writes into all memory of an automaton.
func spoil(a api.Auto) {
	for i := range a.Last {
		a.Last[i] = -7
	}
	_ = append(a.Last, -7)
	for i := range a.Moves {
		for j := range a.Moves[i].From {
			a.Moves[i].From[j] = -7
		}
		_ = append(a.Moves[i].From, -7)
		a.Moves[i] = api.Move{Name: "spoilt", From: a.Moves[i].From}
	}
}

func TestZ2FreshMemory(t *testing.T) {
	a, b := autoOf(t, "2; a>0 b>1 f01>1 f11>0; 1 0 1"), autoOf(t, "2; a>0 f01>1 f00>1 b>1; 1")
	before := textOfAuto(a) + textOfAuto(b)
	for what, call := range map[string]func(a, b api.Auto) (api.Auto, api.Errno){"Both": Both, "Either": Either} {
		x, e := call(a, b)
		want := textOfAuto(x)
		for i := range x.Moves {
			if len(x.Moves[i].From) > 0 {
				_ = append(x.Moves[i].From, -7)
				x.Moves[i].From[0] -= 100
			}
		}
		for i := range x.Moves {
			if len(x.Moves[i].From) > 0 {
				x.Moves[i].From[0] += 100
			}
		}
		if textOfAuto(x) != want || e != api.OK {
			t.Errorf("%s: lists share memory: %s, want %s", what, textOfAuto(x), want)
		}
		spoil(x)
		if textOfAuto(a)+textOfAuto(b) != before {
			t.Fatalf("%s: written into", what)
		}
		if y, _ := call(a, b); textOfAuto(y) != want {
			t.Errorf("%s once more: %s, want %s", what, textOfAuto(y), want)
		}
	}
	_, _ = Within(a, b)
	_, _ = Least(a)
	_, _ = Accepts(a, knot("f", knot("a"), knot("b")))
	x, _ := Some(autoOf(t, "3; a>0 h0>1 f11>2; 2"))
	x.Args[0].Args[0] = knot("spoilt")
	if textOf(x) != "f(h(spoilt),h(a))" {
		t.Errorf("Some shares memory: %s", textOf(x))
	}
	if textOfAuto(a)+textOfAuto(b) != before {
		t.Error("written into")
	}
}

func TestZ2NothingBeyond(t *testing.T) {
	all := autoOf(t, "2; a>0 h01>1 b>7; 0 1 7")
	a := api.Auto{States: 2, Moves: all.Moves[:2], Last: all.Last[:1]}
	a.Moves[1].From = a.Moves[1].From[:1]
	if e := Check(a); e != api.OK {
		t.Errorf("Check: error %d", e)
	}
	if ok, e := Accepts(a, parsed(t, "h(a)")); ok || e != api.OK {
		t.Errorf("Accepts: %v, error %d", ok, e)
	}
	x := broad(2, knot("a"))
	x.Name, x.Args = "h", x.Args[:1]
	a.Last = all.Last[1:2]
	if ok, e := Accepts(a, x); !ok || e != api.OK {
		t.Errorf("Accepts: %v, error %d", ok, e)
	}
	if n, e := Least(a); n != 3 || e != api.OK {
		t.Errorf("Least: %d, error %d", n, e)
	}
}
