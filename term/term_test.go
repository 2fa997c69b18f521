package term

import (
	"reflect"
	"slices"
	"strings"
	"testing"

	"metaprune/api"
	"metaprune/sample"
)

var (
	knot    = sample.Knot
	tower   = sample.Tower
	endless = sample.Endless
)

// broad is f above so many a's.
func broad(many int) api.Term {
	t := knot("f")
	for range many {
		t.Args = append(t.Args, knot("a"))
	}
	return t
}

// samples are terms that may be, by their texts.
var samples = []string{
	"a", "X", "h(X)", "f(a,h(X))", "f(X,Y)", "f(Y,g(X,Y))", "f(f(f(a,b),c),X9)",
	"abcdefgh", "ABCDEFGH", "a1(b2(C3),D4,e5(f6,G7))", "f(X,f(X,f(X,X)))", "g(a)",
}

func parsed(t *testing.T, text string) api.Term {
	t.Helper()
	x, e := Parse(text)
	if e != api.OK {
		t.Fatalf("Parse(%q): error %d", text, e)
	}
	return x
}

func sameErr(t *testing.T, what string, got, want api.Errno) {
	t.Helper()
	if got != want {
		t.Errorf("%s: error %d, want %d", what, got, want)
	}
}

// sameTerm asks by the terms themselves, not by their texts: no call under test helps.
func sameTerm(a, b api.Term) bool {
	if a.Name != b.Name || len(a.Args) != len(b.Args) {
		return false
	}
	for i := range a.Args {
		if !sameTerm(a.Args[i], b.Args[i]) {
			return false
		}
	}
	return true
}

func isNoTerm(t api.Term) bool { return t.Name == "" && len(t.Args) == 0 }

// wrongTerms are terms that may not be, each with what is wrong.
func wrongTerms() map[string]struct {
	t api.Term
	e api.Errno
} {
	type row = struct {
		t api.Term
		e api.Errno
	}
	return map[string]row{
		"no name":                       {knot(""), api.ErrName},
		"a digit first":                 {knot("9a"), api.ErrName},
		"a name of MaxName + 1":         {knot("abcdefghi"), api.ErrName},
		"a variable of MaxName + 1":     {knot("Abcdefghi"), api.ErrName},
		"a blank":                       {knot("a b"), api.ErrName},
		"a line":                        {knot("a_b"), api.ErrName},
		"a sign below A":                {knot("a@"), api.ErrName},
		"a sign above Z":                {knot("A["), api.ErrName},
		"a sign below a":                {knot("a`"), api.ErrName},
		"a sign above z":                {knot("a{"), api.ErrName},
		"a sign below 0":                {knot("a/"), api.ErrName},
		"a sign above 9":                {knot("a:"), api.ErrName},
		"a letter of another alphabet":  {knot("é"), api.ErrName},
		"a capital of another alphabet": {knot("aÉ"), api.ErrName},
		"a nought byte":                 {knot("a\x00"), api.ErrName},
		"a wrong name below":            {knot("f", knot("a"), knot("9")), api.ErrName},
		"a variable with one below":     {knot("X", knot("a")), api.ErrForm},
		"such a variable below":         {knot("f", knot("a"), knot("X", knot("Y"))), api.ErrForm},
		"MaxNodes + 1, high":            {tower(api.MaxNodes, knot("a")), api.ErrLimit},
		"MaxNodes + 1, broad":           {broad(api.MaxNodes), api.ErrLimit},
		"far too high":                  {tower(1<<16-1, knot("a")), api.ErrLimit},
		"far too broad":                 {broad(1 << 16), api.ErrLimit},
		"endless":                       {endless(), api.ErrLimit},

		"a wrong name, and something below a variable":  {knot("Toolongname", knot("a")), api.ErrName},
		"a wrong name above a variable with one below":  {knot("9", knot("X", knot("a"))), api.ErrName},
		"a wrong name below a variable":                 {knot("X", knot("9")), api.ErrForm},
		"a wrong name to the right of such a variable":  {knot("f", knot("X", knot("a")), knot("9")), api.ErrForm},
		"a wrong name to the left of such a variable":   {knot("f", knot("9"), knot("X", knot("a"))), api.ErrName},
		"a wrong name deep on the left, ahead of that":  {knot("f", knot("g", knot("h", knot("9"))), knot("X", knot("a"))), api.ErrName},
		"such a variable deep on the left, ahead of it": {knot("f", knot("g", knot("X", knot("a"))), knot("9")), api.ErrForm},
		"too many, and a wrong name":                    {knot("9", broad(api.MaxNodes)), api.ErrLimit},
		"too many, below a variable":                    {knot("X", broad(api.MaxNodes-1)), api.ErrLimit},
	}
}

func TestA1TermsThatMayBe(t *testing.T) {
	for what, x := range map[string]api.Term{
		"a symbol":                  knot("a"),
		"a variable":                knot("X"),
		"the first and last signs":  knot("azAZ09"),
		"a capital first":           knot("AzaZ09"),
		"z first":                   knot("z"),
		"Z first":                   knot("Z"),
		"a symbol of MaxName":       knot("abcdefg8"),
		"a variable of MaxName":     knot("Abcdefg8"),
		"an empty list below it":    {Name: "X", Args: []api.Term{}},
		"one name, other numbers":   knot("f", knot("f"), knot("f", knot("f"))),
		"MaxNodes, high":            tower(api.MaxNodes-1, knot("X")),
		"MaxNodes, broad":           broad(api.MaxNodes - 1),
		"MaxNodes, high then broad": tower(100, broad(api.MaxNodes-101)),
	} {
		sameErr(t, "Check of "+what, Check(x), api.OK)
	}
}

func TestA1TermsThatMayNotBe(t *testing.T) {
	for what, w := range wrongTerms() {
		sameErr(t, "Check of "+what, Check(w.t), w.e)
	}
}

func TestA1AllCallsSayItFirst(t *testing.T) {
	noPlace := []int{-1}
	for what, w := range wrongTerms() {
		s, e := Text(w.t)
		if s != "" || e != w.e {
			t.Errorf("Text of %s: %q, error %d, want %d", what, s, e, w.e)
		}
		n, e := Names(w.t)
		if len(n) != 0 || e != w.e {
			t.Errorf("Names of %s: %v, error %d, want %d", what, n, e, w.e)
		}
		l, e := Places(w.t)
		if len(l) != 0 || e != w.e {
			t.Errorf("Places of %s: %v, error %d, want %d", what, l, e, w.e)
		}
		x, e := At(w.t, noPlace)
		if !isNoTerm(x) || e != w.e {
			t.Errorf("At of %s: %v, error %d, want %d", what, x, e, w.e)
		}
		x, e = Put(w.t, noPlace, knot("", knot("a")))
		if !isNoTerm(x) || e != w.e {
			t.Errorf("Put into %s: %v, error %d, want %d", what, x, e, w.e)
		}
	}
}

func TestA2Text(t *testing.T) {
	for want, x := range map[string]api.Term{
		"a":                     knot("a"),
		"X":                     knot("X"),
		"h(a)":                  knot("h", knot("a")),
		"f(X,a)":                knot("f", knot("X"), knot("a")),
		"f(a,g(X,h(b)),Y)":      knot("f", knot("a"), knot("g", knot("X"), knot("h", knot("b"))), knot("Y")),
		"b":                     {Name: "b", Args: []api.Term{}},
		"f" + commas("a", 199):  broad(199),
		nested("h(", "X", 199):  tower(199, knot("X")),
		"AbCdEfGh":              knot("AbCdEfGh"),
		"f(f(f,f(f)),f(f(f)))":  knot("f", knot("f", knot("f"), knot("f", knot("f"))), knot("f", knot("f", knot("f")))),
		"a1(b2(C3),D4,e5(f,G))": knot("a1", knot("b2", knot("C3")), knot("D4"), knot("e5", knot("f"), knot("G"))),
	} {
		s, e := Text(x)
		if s != want || e != api.OK {
			t.Errorf("Text: %q, error %d, want %q", s, e, want)
		}
		back, e := Parse(want)
		if !sameTerm(back, x) || e != api.OK {
			t.Errorf("Parse(%q): %v, error %d, want %v", want, back, e, x)
		}
	}
}

// commas: so many of a text in brackets, commas between.
func commas(text string, many int) string {
	return "(" + strings.Repeat(text+",", many-1) + text + ")"
}

// nested: so many of a text that opens a bracket, then another one, then as many that close it.
func nested(open, inner string, many int) string {
	return strings.Repeat(open, many) + inner + strings.Repeat(")", many)
}

func TestA2ParseRefuses(t *testing.T) {
	for _, c := range []struct {
		text string
		e    api.Errno
	}{
		{"", api.ErrShort},
		{"f(", api.ErrShort},
		{"f(a", api.ErrShort},
		{"f(a,", api.ErrShort},
		{"f(a,g(b)", api.ErrShort},
		{"f(a,g(b", api.ErrShort},
		{"(", api.ErrWord},
		{")", api.ErrWord},
		{",", api.ErrWord},
		{" a", api.ErrWord},
		{"f()", api.ErrWord},
		{"f(,a)", api.ErrWord},
		{"f(a,)", api.ErrWord},
		{"f(a,,b)", api.ErrWord},
		{"f(a b)", api.ErrWord},
		{"f(a;b)", api.ErrWord},
		{"f(a, b)", api.ErrWord},
		{"f(a(b)(c))", api.ErrWord},
		{"a ", api.ErrWord},
		{"a b", api.ErrWord},
		{"a)", api.ErrWord},
		{"a,b", api.ErrWord},
		{"f(a)b", api.ErrWord},
		{"f(a))", api.ErrWord},
		{"f(a)(b)", api.ErrWord},
		{"X (a)", api.ErrWord},
		{"a\n", api.ErrWord},
		{"a\x00", api.ErrWord},
		{"é", api.ErrWord},
		{"aé", api.ErrWord},
		{"\xff", api.ErrWord},
		{"a_b", api.ErrWord},
		{"9", api.ErrName},
		{"9a", api.ErrName},
		{"0", api.ErrName},
		{"abcdefghi", api.ErrName},
		{"Abcdefghi", api.ErrName},
		{"f(a,9)", api.ErrName},
		{"X(a)", api.ErrForm},
		{"f(a,X(b))", api.ErrForm},
	} {
		refused(t, c.text, c.e)
	}
}

func refused(t *testing.T, text string, want api.Errno) {
	t.Helper()
	x, e := Parse(text)
	if !isNoTerm(x) || e != want {
		t.Errorf("Parse(%.60q): %v, error %d, want %d", text, x, e, want)
	}
}

// What is wrong first in the text is told, and of what is wrong at one spot what A2 names first.
func TestA2ParseTellsTheFirst(t *testing.T) {
	for _, c := range []struct {
		text string
		e    api.Errno
	}{
		{"X(", api.ErrForm},
		{"X()", api.ErrForm},
		{"X(9", api.ErrForm},
		{"X(a)b", api.ErrForm},
		{"Toolongname(a)", api.ErrName},
		{"9(", api.ErrName},
		{"9 ", api.ErrName},
		{"f(9,X(a))", api.ErrName},
		{"f(X(a),9)", api.ErrForm},
		{"f(X(a)", api.ErrForm},
		{"f(9", api.ErrName},
		{"f(a;9", api.ErrWord},
		{"f(a)X(a)", api.ErrWord},
	} {
		refused(t, c.text, c.e)
	}
}

func TestA2ParseLimits(t *testing.T) {
	full := strings.Repeat("a,", api.MaxNodes-1)
	open := strings.Repeat("h(", api.MaxNodes)
	for _, c := range []struct {
		text string
		e    api.Errno
	}{
		{"f" + commas("a", api.MaxNodes-1), api.OK},
		{"f" + commas("a", api.MaxNodes), api.ErrLimit},
		{nested("h(", "a", api.MaxNodes-1), api.OK},
		{nested("h(", "a", api.MaxNodes), api.ErrLimit},
		{"f(" + full + "a", api.ErrLimit},
		{"f(" + full + "X(a))", api.ErrLimit},
		{"f(" + full + "a;", api.ErrLimit},
		{"f(" + full + "9", api.ErrName},
		{"f(" + full + "abcdefghi", api.ErrName},
		{"f(" + full, api.ErrShort},
		{"f(" + full + ")", api.ErrWord},
		{open, api.ErrShort},
		{open + "X(a", api.ErrLimit},
		{strings.Repeat("h(", api.MaxNodes-1) + "X(a", api.ErrForm},
		{strings.Repeat("a", api.MaxText), api.ErrName},
		{strings.Repeat("a", api.MaxText+1), api.ErrLimit},
		{strings.Repeat("(", api.MaxText), api.ErrWord},
		{strings.Repeat("(", api.MaxText+1), api.ErrLimit},
		{"a" + strings.Repeat(" ", api.MaxText-1), api.ErrWord},
		{"a" + strings.Repeat(" ", api.MaxText), api.ErrLimit},
		{"X(" + strings.Repeat("9", api.MaxText), api.ErrLimit},
		{strings.Repeat("f(", 1<<16), api.ErrLimit},
	} {
		x, e := Parse(c.text)
		if e != c.e || isNoTerm(x) != (e != api.OK) {
			t.Errorf("Parse(%.60q..), %d bytes: error %d, want %d", c.text, len(c.text), e, c.e)
		}
	}
}

// However a text is cut off or changed, Parse ends, and what it takes is told back by Text to the byte.
func TestA2ParseTakesWhatTextTells(t *testing.T) {
	for _, s := range samples {
		x := parsed(t, s)
		if got, e := Text(x); got != s || e != api.OK {
			t.Errorf("Text(Parse(%q)): %q, error %d", s, got, e)
		}
		for k := range s {
			for c := range 256 {
				text := s[:k] + string([]byte{byte(c)}) + s[k+1:]
				x, e := Parse(text)
				if e != api.OK {
					continue
				}
				if got, e := Text(x); got != text || e != api.OK {
					t.Errorf("Text(Parse(%q)): %q, error %d", text, got, e)
				}
			}
			if x, e := Parse(s[:k]); e == api.OK {
				if got, e := Text(x); got != s[:k] || e != api.OK {
					t.Errorf("Text(Parse(%q)): %q, error %d", s[:k], got, e)
				}
			}
		}
	}
}

func TestA3Names(t *testing.T) {
	for text, want := range map[string]string{
		"a":                     "",
		"f(a,h(b))":             "",
		"X":                     "X",
		"f(Y,g(X,Y))":           "Y X",
		"f(g(Z,h(Y)),X)":        "Z Y X",
		"f(X,f(X,X))":           "X",
		"f(h(X1),X,X1,x)":       "X1 X",
		"f(B,A,b,a,B)":          "B A",
		"f(h(h(h(U))),V,h(U))":  "U V",
		"f(ABCDEFGH,abcdefgh)":  "ABCDEFGH",
		nested("h(", "X", 199):  "X",
		"f" + commas("Y", 199):  "Y",
		"f(X,g(Y,h(Z)),U,V,X2)": "X Y Z U V X2",
	} {
		l, e := Names(parsed(t, text))
		if got := strings.Join(l, " "); got != want || e != api.OK {
			t.Errorf("Names(%s): %q, error %d, want %q", text, got, e, want)
		}
	}
}

func TestA3Places(t *testing.T) {
	for text, want := range map[string][][]int{
		"a":              {{}},
		"X":              {{}},
		"f(a,h(X))":      {{}, {0}, {1}, {1, 0}},
		"f(g(h(a),b),c)": {{}, {0}, {0, 0}, {0, 0, 0}, {0, 1}, {1}},
		"f(a,b,c)":       {{}, {0}, {1}, {2}},
		"f(h(k(a)),X)":   {{}, {0}, {0, 0}, {0, 0, 0}, {1}},
		"h(h(h(f(a,f(b,c)))))": {{}, {0}, {0, 0}, {0, 0, 0}, {0, 0, 0, 0}, {0, 0, 0, 1},
			{0, 0, 0, 1, 0}, {0, 0, 0, 1, 1}},
	} {
		l, e := Places(parsed(t, text))
		if !samePlaces(l, want) || e != api.OK {
			t.Errorf("Places(%s): %v, error %d, want %v", text, l, e, want)
		}
	}
	l, e := Places(tower(api.MaxNodes-1, knot("a")))
	if e != api.OK || len(l) != api.MaxNodes || len(l[api.MaxNodes-1]) != api.MaxNodes-1 {
		t.Errorf("Places of MaxNodes, high: %d of them, error %d", len(l), e)
	}
	l, e = Places(broad(api.MaxNodes - 1))
	if e != api.OK || len(l) != api.MaxNodes || !reflect.DeepEqual(l[api.MaxNodes-1], []int{api.MaxNodes - 2}) {
		t.Errorf("Places of MaxNodes, broad: %d of them, error %d", len(l), e)
	}
}

func samePlaces(a, b [][]int) bool {
	if len(a) != len(b) {
		return false
	}
	for i := range a {
		if len(a[i])+len(b[i]) > 0 && !reflect.DeepEqual(a[i], b[i]) {
			return false
		}
	}
	return true
}

// aside are places, and what stands there in f(a,g(h(X),b)); empty: there is no such place.
var aside = []struct {
	place []int
	text  string
}{
	{nil, "f(a,g(h(X),b))"},
	{[]int{}, "f(a,g(h(X),b))"},
	{[]int{0}, "a"},
	{[]int{1}, "g(h(X),b)"},
	{[]int{1, 0}, "h(X)"},
	{[]int{1, 0, 0}, "X"},
	{[]int{1, 1}, "b"},
	{[]int{2}, ""},
	{[]int{-1}, ""},
	{[]int{0, 0}, ""},
	{[]int{1, 2}, ""},
	{[]int{1, -1}, ""},
	{[]int{1, 0, 0, 0}, ""},
	{[]int{1, 0, 1}, ""},
	{[]int{2, 0}, ""},
	{[]int{-1, 0}, ""},
	{[]int{1<<63 - 1}, ""},
	{[]int{-1 << 63}, ""},
	{make([]int, 1<<16), ""},
}

func TestA3At(t *testing.T) {
	whole := parsed(t, "f(a,g(h(X),b))")
	for _, c := range aside {
		x, e := At(whole, c.place)
		if c.text == "" {
			if !isNoTerm(x) || e != api.ErrPlace {
				t.Errorf("At %.60v: %v, error %d, want %d", c.place, x, e, api.ErrPlace)
			}
		} else if !sameTerm(x, parsed(t, c.text)) || e != api.OK {
			t.Errorf("At %v: %v, error %d, want %s", c.place, x, e, c.text)
		}
	}
}

func TestA3Put(t *testing.T) {
	for _, c := range []struct {
		into  string
		place []int
		x     string
		want  string
	}{
		{"f(a,h(X))", []int{1, 0}, "b", "f(a,h(b))"},
		{"f(a,h(X))", []int{}, "g(b,Y)", "g(b,Y)"},
		{"f(a,h(X))", nil, "Y", "Y"},
		{"f(a,h(X))", []int{0}, "h(Y)", "f(h(Y),h(X))"},
		{"f(a,h(X))", []int{1}, "c", "f(a,c)"},
		{"f(X,X)", []int{1}, "h(X)", "f(X,h(X))"},
		{"a", nil, "a", "a"},
		{"f(g(a,b,c),d)", []int{0, 1}, "h(X)", "f(g(a,h(X),c),d)"},
	} {
		got, e := Put(parsed(t, c.into), c.place, parsed(t, c.x))
		if !sameTerm(got, parsed(t, c.want)) || e != api.OK {
			t.Errorf("Put(%s, %v, %s): %v, error %d, want %s", c.into, c.place, c.x, got, e, c.want)
		}
	}
	for _, c := range aside {
		got, e := Put(parsed(t, "f(a,g(h(X),b))"), c.place, knot("k"))
		if c.text == "" && (!isNoTerm(got) || e != api.ErrPlace) {
			t.Errorf("Put at %.60v: %v, error %d, want %d", c.place, got, e, api.ErrPlace)
		}
	}
}

func TestA3PutAsksForXAheadOfThePlace(t *testing.T) {
	for what, w := range wrongTerms() {
		for _, place := range [][]int{{}, {0}, {5}} {
			got, e := Put(knot("f", knot("a")), place, w.t)
			if !isNoTerm(got) || e != w.e {
				t.Errorf("Put of %s at %v: %v, error %d, want %d", what, place, got, e, w.e)
			}
		}
	}
}

// What Put answers is bound by no limit of its own.
func TestA3PutOfTheGreatest(t *testing.T) {
	great := tower(api.MaxNodes-1, knot("a"))
	place := make([]int, api.MaxNodes-1)
	got, e := Put(great, place, great)
	if e != api.OK || !sameTerm(got, tower(2*api.MaxNodes-2, knot("a"))) {
		t.Errorf("Put of MaxNodes into MaxNodes: error %d", e)
	}
}

// What is put at a place stands there, and nothing else is changed.
func TestA3PlacesAtPutAgree(t *testing.T) {
	x := knot("new", knot("New"))
	for _, text := range samples {
		whole := parsed(t, text)
		l, e := Places(whole)
		sameErr(t, "Places of "+text, e, api.OK)
		for _, p := range l {
			old, e := At(whole, p)
			sameErr(t, "At of "+text, e, api.OK)
			put, e := Put(whole, p, x)
			sameErr(t, "Put into "+text, e, api.OK)
			if got, e := At(put, p); !sameTerm(got, x) || e != api.OK {
				t.Errorf("%s: put at %v: there stands %v, error %d", text, p, got, e)
			}
			if back, e := Put(put, p, old); !sameTerm(back, whole) || e != api.OK {
				t.Errorf("%s: put back at %v: %v, error %d", text, p, back, e)
			}
		}
	}
}

// spoil writes into all lists of a term, and into the room behind them.
func spoil(t api.Term) {
	for i := range t.Args {
		spoil(t.Args[i])
		t.Args[i] = knot("spoilt")
	}
	for i := range t.Args[len(t.Args):cap(t.Args)] {
		t.Args[:cap(t.Args)][len(t.Args)+i] = knot("spoilt")
	}
}

func TestZ2TermsAreFreshMemory(t *testing.T) {
	const text = "f(g(a,X),g(a,X))"
	twin := parsed(t, "g(a,X)")
	whole := knot("f", twin, twin)
	x := knot("h", twin)
	for _, p := range [][]int{{}, {0}, {1}, {1, 1}} {
		got, _ := At(whole, p)
		spoil(got)
		put, _ := Put(whole, p, x)
		spoil(put)
		if s, _ := Text(whole); s != text {
			t.Fatalf("place %v: an answer shares memory with what was handed in: now %s", p, s)
		}
		if s, _ := Text(x); s != "h(g(a,X))" {
			t.Fatalf("place %v: an answer shares memory with what was put: now %s", p, s)
		}
	}
	got, _ := At(whole, nil)
	spoil(got.Args[0])
	if !sameTerm(got.Args[1], twin) {
		t.Error("two lists of what At answers share memory")
	}
	put, _ := Put(whole, []int{0}, twin)
	spoil(put.Args[0])
	if !sameTerm(put.Args[1], twin) {
		t.Error("two lists of what Put answers share memory")
	}
	read := parsed(t, text)
	spoil(read.Args[0])
	if !sameTerm(read.Args[1], twin) {
		t.Error("two lists of what Parse answers share memory")
	}
}

func TestZ2PlacesAreFreshMemory(t *testing.T) {
	// High and forked: room that lists grew by on the way down could be handed out twice.
	whole := parsed(t, "f(g(h(f(f(a,b),f(a,b))),b),h(h(h(f(f(c,X),f(Y,f(a,b)))))))")
	want, _ := Places(whole)
	got, _ := Places(whole)
	for i := range got {
		room := got[i][:cap(got[i])]
		for k := range room {
			room[k] = -7
		}
		for k := i + 1; k < len(got); k++ {
			if slices.Contains(got[k], -7) || !reflect.DeepEqual(got[k], want[k]) {
				t.Fatalf("places %d and %d share memory", i, k)
			}
		}
	}
}

// What stands behind a list in memory is not part of it.
func TestZ2NothingBehindAListIsRead(t *testing.T) {
	args := []api.Term{knot("a"), knot("X"), knot("9")}
	whole := api.Term{Name: "f", Args: args[:1]}
	place := []int{0, 5}
	if s, e := Text(whole); s != "f(a)" || e != api.OK {
		t.Errorf("Text: %q, error %d", s, e)
	}
	if x, e := At(whole, place[:1]); !sameTerm(x, knot("a")) || e != api.OK {
		t.Errorf("At: %v, error %d", x, e)
	}
	if _, e := At(whole, []int{1}); e != api.ErrPlace {
		t.Errorf("At behind the list: error %d, want %d", e, api.ErrPlace)
	}
	if x, e := Put(whole, place[:1], knot("b")); !sameTerm(x, knot("f", knot("b"))) || e != api.OK {
		t.Errorf("Put: %v, error %d", x, e)
	}
	if args[0].Name != "a" || args[1].Name != "X" || args[2].Name != "9" || place[1] != 5 {
		t.Error("what was handed in is changed")
	}
}
