package order

import (
	"slices"
	"strconv"
	"strings"
	"testing"

	"metaprune/api"
	"metaprune/sample"
	"metaprune/term"
)

var (
	knot   = sample.Knot
	broad  = sample.Broad
	tower  = sample.Tower
	textOf = sample.Text
)

func parsed(t *testing.T, text string) api.Term {
	t.Helper()
	x, e := term.Parse(text)
	if e != api.OK {
		t.Fatalf("Parse(%q): error %d", text, e)
	}
	return x
}

// named are so many names: s0, s1, ..
func named(many int) []string {
	var row []string
	for i := range many {
		row = append(row, "s"+strconv.Itoa(i))
	}
	return row
}

// asked is a face's answer, without an error.
func asked(t *testing.T, call func([]string, api.Term, api.Term) (bool, api.Errno), row []string, a, b api.Term) bool {
	t.Helper()
	ok, e := call(row, a, b)
	if e != api.OK {
		t.Fatalf("row %v, %s, %s: error %d", row, textOf(a), textOf(b), e)
	}
	return ok
}

func TestF1RowsThatMayBe(t *testing.T) {
	for what, row := range map[string][]string{
		"none":              nil,
		"an empty list":     {},
		"one":               {"f"},
		"MaxName bytes":     {"a", "abcdefgh", "a1234567"},
		"MaxList":           named(api.MaxList),
		"names almost same": {"f", "ff", "fF", "f1"},
	} {
		if e := Check(row); e != api.OK {
			t.Errorf("Check of %s: error %d", what, e)
		}
	}
}

func TestF1RowsThatMayNotBe(t *testing.T) {
	bad := named(api.MaxList + 1)
	bad[0], bad[1] = "X", "X"
	for _, c := range []struct {
		what string
		row  []string
		e    api.Errno
	}{
		{"MaxList + 1", named(api.MaxList + 1), api.ErrLimit},
		{"MaxList + 1, of which the first is wrong", bad, api.ErrLimit},
		{"an empty name", []string{"f", ""}, api.ErrName},
		{"a variable's name", []string{"f", "X"}, api.ErrName},
		{"a digit first", []string{"9a"}, api.ErrName},
		{"another sign", []string{"f", "a b"}, api.ErrName},
		{"MaxName + 1 bytes", []string{"abcdefghi"}, api.ErrName},
		{"one twice", []string{"f", "f"}, api.ErrTwice},
		{"one twice, others between", []string{"f", "g", "h", "f", "k"}, api.ErrTwice},
		{"the last of MaxList", append(named(api.MaxList-1), "s7"), api.ErrTwice},

		{"a wrong name twice", []string{"X", "X"}, api.ErrName},
		{"one twice, then a wrong one", []string{"f", "f", "X"}, api.ErrTwice},
		{"a wrong one, then one twice", []string{"f", "X", "f"}, api.ErrName},
	} {
		if e := Check(c.row); e != c.e {
			t.Errorf("Check of %s: error %d, want %d", c.what, e, c.e)
		}
		refused(t, c.what, c.row, knot("b"), knot("a"), c.e)
	}
}

func refused(t *testing.T, what string, row []string, a, b api.Term, want api.Errno) {
	t.Helper()
	if ok, e := Path(row, a, b); ok || e != want {
		t.Errorf("Path, %s: %v, error %d, want %d", what, ok, e, want)
	}
	if ok, e := Weight(row, a, b); ok || e != want {
		t.Errorf("Weight, %s: %v, error %d, want %d", what, ok, e, want)
	}
}

func TestF1BothCallsCheckTheRowThenBothTerms(t *testing.T) {
	form := knot("X", knot("a"))
	for _, w := range sample.Wrongs() {
		refused(t, w.What+", first", nil, w.Term, knot("a"), w.Errno)
		refused(t, w.What+", second", nil, knot("a"), w.Term, w.Errno)
		refused(t, w.What+" ahead of the second", nil, w.Term, form, w.Errno)
		refused(t, w.What+" behind the first", nil, form, w.Term, api.ErrForm)
		refused(t, w.What+" behind the row", []string{"f", "f"}, w.Term, w.Term, api.ErrTwice)
	}
}

// Of two terms of one size, with nothing but their symbols apart, that is above
// by both calls whose symbol is greater.
func TestF1WhichSymbolIsGreater(t *testing.T) {
	for _, c := range []struct{ row, greater, less string }{
		{"a b", "b", "a"},
		{"b a", "a", "b"},
		{"c a b", "b", "c"},
		{"z", "z", "a"},
		{"a", "a", "z"},
		{"a", "a", "b"},
		{"", "b", "a"},
		{"", "ab", "a"},
		{"", "aB", "a9"},
		{"", "aa", "aZ"},
		{"", "a10", "a1"},
		{"", "a2", "a10"},
		{"f", "c", "b"},
		{"a g f", "f(c)", "g(c)"},
		{"a f g", "g(c)", "f(c)"},
		{"", "k(a,a)", "k(h(a))"},
		{"f", "f(a,a)", "f(h(a))"},
		{"f g", "g(h(a))", "f(a,a)"},
		{"g f", "f(h(a))", "g(a,a)"},
		{"", "g(h(a))", "f(a,a)"},
		{"s9 s10", "s10", "s9"},
	} {
		row := strings.Fields(c.row)
		x, y := parsed(t, c.greater), parsed(t, c.less)
		for what, call := range map[string]func([]string, api.Term, api.Term) (bool, api.Errno){"Path": Path, "Weight": Weight} {
			if !asked(t, call, row, x, y) || asked(t, call, row, y, x) {
				t.Errorf("%s, row %s: %s is not above %s", what, c.row, c.greater, c.less)
			}
		}
	}
}

func TestF1TheLastOfMaxListIsGreatest(t *testing.T) {
	row := named(api.MaxList)
	slices.Reverse(row)
	for i := range row {
		for j := range row {
			if asked(t, Path, row, knot(row[i]), knot(row[j])) != (i > j) {
				t.Errorf("Path, %s and %s, at places %d and %d: %v", row[i], row[j], i, j, i <= j)
			}
			if asked(t, Weight, row, knot(row[i]), knot(row[j])) != (i > j) {
				t.Errorf("Weight, %s and %s, at places %d and %d: %v", row[i], row[j], i, j, i <= j)
			}
		}
	}
}

func TestF2Path(t *testing.T) {
	for _, c := range []struct {
		row, a, b string
		want      bool
	}{
		{"a h f", "f(h(X),Y)", "h(f(X,Y))", true},
		{"a h f", "h(f(X,Y))", "f(h(X),Y)", false},
		{"a f h", "f(h(X),Y)", "h(f(X,Y))", false},
		{"a f h", "h(f(X,Y))", "f(h(X),Y)", true},

		{"", "X", "X", false},
		{"", "X", "Y", false},
		{"", "X", "a", false},
		{"", "X", "h(X)", false},
		{"", "a", "X", false},
		{"", "h(Y)", "X", false},
		{"", "h(X)", "X", true},
		{"", "f(a,h(h(X)))", "X", true},
		{"", "f(a,h(h(X)))", "h(X)", true},

		{"a z", "h(z)", "z", true},
		{"h z", "h(z)", "z", true},
		{"h z", "h(f(a,z))", "f(a,a)", true},
		{"h z", "h(a)", "z", false},
		{"h z", "z", "h(h(h(a)))", true},
		{"h z", "z", "h(h(h(X)))", false},

		{"f g", "g(X)", "f(X,X)", true},
		{"f g", "g(X)", "f(X,f(X,X))", true},
		{"f g", "g(X)", "f(X,Y)", false},
		{"f g", "g(X)", "f(X,g(X))", false},
		{"f g", "g(h(X))", "f(X,g(X))", true},

		{"", "f(X,Y)", "f(X,Y)", false},
		{"", "a", "a", false},
		{"", "f(b,a)", "f(a,b)", true},
		{"", "f(a,b)", "f(b,a)", false},
		{"", "f(a,b)", "f(a,a)", true},
		{"", "f(b,a)", "f(a,h(h(b)))", false},
		{"a b h f", "f(b,a)", "f(a,h(h(b)))", true},
		{"a b f h", "f(b,a)", "f(a,h(h(b)))", false},
		{"", "f(f(X,Y),Z)", "f(X,f(Y,Z))", true},
		{"", "f(X,f(Y,Z))", "f(f(X,Y),Z)", false},
		{"", "f(X,Y)", "f(Y,X)", false},
		{"", "f(h(X),Y)", "f(X,Y)", true},
		{"", "f(X,h(Y))", "f(X,Y)", true},
		{"", "f(h(X),Y)", "f(X,h(Y))", false},
		{"", "f(h(X),Y)", "f(X,f(X,Y))", true},
		{"", "f(h(X),Y)", "f(X,f(Y,X))", false},
		{"", "f(h(X),Y)", "f(X,f(Y,Y))", false},
		{"", "f(h(X),h(Y))", "f(X,h(Y))", true},
		{"", "f(a,a)", "f(h(a))", false},
		{"h f", "f(a,a)", "f(h(a))", true},
		{"", "h(a)", "h", true},
		{"", "h", "h(a)", false},
		{"", "f(X)", "f", true},
	} {
		if got := asked(t, Path, strings.Fields(c.row), parsed(t, c.a), parsed(t, c.b)); got != c.want {
			t.Errorf("Path, row %s: %s and %s: %v", c.row, c.a, c.b, got)
		}
	}
}

func TestF3Weight(t *testing.T) {
	for _, c := range []struct {
		row, a, b string
		want      bool
	}{
		{"a h f", "f(h(X),Y)", "h(f(X,Y))", true},
		{"a f h", "f(h(X),Y)", "h(f(X,Y))", false},
		{"a f h", "h(f(X,Y))", "f(h(X),Y)", true},

		{"", "h(h(h(X)))", "f(X,X)", false},
		{"", "f(X,h(h(a)))", "f(X,Y)", false},
		{"", "f(Y,X)", "X", true},
		{"", "h(X)", "X", true},
		{"", "h(Y)", "X", false},
		{"", "h(a)", "X", false},

		{"", "f(a,a)", "b", true},
		{"z", "f(a,a)", "z", true},
		{"z", "z", "f(a,a)", false},
		{"z", "f(X,Y)", "z", true},
		{"z", "z", "h(a)", false},

		{"", "X", "X", false},
		{"", "X", "a", false},
		{"", "X", "Y", false},
		{"", "a", "X", false},
		{"", "a", "a", false},
		{"", "f(X,Y)", "f(X,Y)", false},

		{"", "g(X,a)", "f(b,X)", true},
		{"", "f(X,a)", "g(b,X)", false},
		{"", "f(b,a)", "f(a,b)", true},
		{"", "f(a,b)", "f(b,a)", false},
		{"", "f(a,b)", "f(a,a)", true},
		{"", "f(a,a)", "f(a,b)", false},
		{"", "f(h(a),b)", "f(c,h(a))", true},
		{"", "f(c,h(a))", "f(h(a),b)", false},
		{"", "f(f(X,Y),Z)", "f(X,f(Y,Z))", true},
		{"", "f(X,f(Y,Z))", "f(f(X,Y),Z)", false},
		{"", "f(X,Y)", "f(Y,X)", false},
		{"", "f(h(X),Y)", "f(h(Y),X)", false},
		{"", "f(h(Y),X)", "f(Y,h(X))", true},
		{"", "f(X,a)", "f(a,X)", false},
		{"", "f(a,X)", "f(X,a)", false},
		{"", "f(X,h(a),b)", "f(X,k(a),a)", false},
		{"", "f(X,k(a),a)", "f(X,h(a),b)", true},
		{"", "f(h(k(b)),a)", "f(h(k(a)),b)", true},
	} {
		if got := asked(t, Weight, strings.Fields(c.row), parsed(t, c.a), parsed(t, c.b)); got != c.want {
			t.Errorf("Weight, row %s: %s and %s: %v", c.row, c.a, c.b, got)
		}
	}
}

func TestF3ManyKnots(t *testing.T) {
	for _, c := range []struct {
		what string
		a, b api.Term
		want bool
	}{
		{"MaxNodes and one fewer", broad(api.MaxNodes-1, knot("a")), broad(api.MaxNodes-2, knot("b")), true},
		{"one fewer and MaxNodes", broad(api.MaxNodes-2, knot("b")), broad(api.MaxNodes-1, knot("a")), false},
		{"the same MaxNodes", broad(api.MaxNodes-1, knot("X")), broad(api.MaxNodes-1, knot("X")), false},
		{"towers, apart at the ground", tower(api.MaxNodes-1, knot("b")), tower(api.MaxNodes-1, knot("a")), true},
		{"a variable too often", tower(100, broad(9, knot("X"))), broad(10, knot("X")), false},
	} {
		if got := asked(t, Weight, nil, c.a, c.b); got != c.want {
			t.Errorf("Weight, %s: %v", c.what, got)
		}
	}
}

// Without what was asked already these would be asked for more often than there
// is time for.
func TestZ1PathEndsSoon(t *testing.T) {
	left, right := knot("a"), knot("b")
	for range 90 {
		left, right = knot("f", left, knot("X")), knot("f", right, knot("X"))
	}
	both := knot("a")
	for i := range 99 {
		both = knot([]string{"f", "g"}[i%2], both, knot("X"))
	}
	for _, c := range []struct {
		what string
		a, b api.Term
		want bool
	}{
		{"apart at the ground", right, left, true},
		{"apart at the ground, turned", left, right, false},
		{"the same", both, both, false},
		{"one within the other", both, both.Args[0].Args[0], true},
		{"the other within the one", both.Args[0].Args[0], both, false},
		{"towers", tower(api.MaxNodes-1, knot("a")), tower(api.MaxNodes-1, knot("b")), false},
		{"a tower and a broad one", tower(api.MaxNodes-1, knot("X")), broad(api.MaxNodes-1, knot("X")), true},
		{"broad ones", broad(api.MaxNodes-1, knot("b")), broad(api.MaxNodes-1, knot("a")), true},
	} {
		if got := asked(t, Path, []string{"a", "b"}, c.a, c.b); got != c.want {
			t.Errorf("Path, %s: %v", c.what, got)
		}
	}
}

func TestZ2NothingIsWrittenOrReadBeyond(t *testing.T) {
	row := []string{"a", "b", "b", "X"}
	terms := []api.Term{knot("a"), knot("b"), knot("X", knot("a"))}
	a := api.Term{Name: "f", Args: terms[:2]}
	b := api.Term{Name: "f", Args: terms[:1]}
	if !asked(t, Path, row[:2], a, b) || !asked(t, Weight, row[:2], a, b) {
		t.Error("f(a,b) is not above f(a)")
	}
	if e := Check(row[:2]); e != api.OK {
		t.Errorf("Check: error %d", e)
	}
	if strings.Join(row, " ") != "a b b X" || textOf(knot("f", terms...)) != "f(a,b,X(a))" {
		t.Errorf("written into: %v %v", row, terms)
	}
}
