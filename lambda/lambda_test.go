package lambda

import (
	"reflect"
	"slices"
	"strconv"
	"strings"
	"testing"

	"metaprune/api"
	"metaprune/sample"
)

var (
	bound   = sample.Bound
	konst   = sample.Const
	meta    = sample.Meta
	binder  = sample.Binder
	nested  = sample.Binders
	applied = sample.Applied
	row     = sample.Row
	textOf  = sample.LamText
	isNone  = sample.IsNoLam
)

func sameErr(t *testing.T, what string, got, want api.Errno) {
	t.Helper()
	if got != want {
		t.Errorf("%s: error %d, want %d", what, got, want)
	}
}

// odd is a knot of any kind, number and Subs.
func odd(kind, index int, subs ...api.Lam) api.Lam {
	return api.Lam{Kind: kind, Index: index, Subs: subs}
}

func TestM1TermsThatMayBe(t *testing.T) {
	for what, c := range map[string]struct {
		t     api.Lam
		under int
	}{
		"bound from outside":            {bound(0), 1},
		"bound by the first of MaxList": {bound(api.MaxList - 1), api.MaxList},
		"bound within":                  {binder(bound(0)), 0},
		"bound from outside, within":    {binder(binder(bound(api.MaxList + 1))), api.MaxList},
		"bound by the outmost of many":  {nested(api.MaxNodes-1, bound(api.MaxNodes-2)), 0},
		"the first constant":            {konst(0), 0},
		"the last constant":             {konst(api.MaxList - 1), 0},
		"an Apply":                      {applied(konst(1), binder(bound(0))), 0},
		"an empty list below":           {odd(api.Const, 1, []api.Lam{}...), 0},
		"MaxNodes, high":                {nested(api.MaxNodes-1, konst(0)), 0},
		"MaxNodes, a row":               {binder(row(api.MaxNodes/2, bound(0))), 0},
	} {
		sameErr(t, "Check of "+what, Check(c.t, c.under), api.OK)
	}
}

// wrong: a lambda term that may not be, under so many binders.
type wrong struct {
	t     api.Lam
	under int
	e     api.Errno
}

func wrongs() map[string]wrong {
	l := map[string]wrong{
		"under -1":                          {konst(0), -1, api.ErrPlace},
		"under MaxList + 1":                 {konst(0), api.MaxList + 1, api.ErrPlace},
		"under the least of all":            {konst(0), -1 << 63, api.ErrPlace},
		"under the most of all":             {konst(0), 1<<63 - 1, api.ErrPlace},
		"under -1, and too many":            {sample.EndlessLam(), -1, api.ErrPlace},
		"MaxNodes + 1, a row":               {row(api.MaxNodes/2+1, konst(0)), 0, api.ErrLimit},
		"MaxNodes + 1, of no kind":          {odd(9, 9, row(api.MaxNodes/2, konst(0)), konst(0)), 0, api.ErrLimit},
		"far too many below":                {odd(api.Bound, 0, make([]api.Lam, 1<<16)...), 0, api.ErrLimit},
		"far too high":                      {nested(1<<16-1, konst(0)), 0, api.ErrLimit},
		"kind -1":                           {odd(-1, 0), 0, api.ErrForm},
		"kind Meta + 1":                     {odd(api.Meta+1, 0), 0, api.ErrForm},
		"a thing bound with one below":      {odd(api.Bound, 0, konst(0)), 1, api.ErrForm},
		"a binder of two":                   {odd(api.Lambda, 0, konst(0), konst(0)), 0, api.ErrForm},
		"an Apply of nothing":               {odd(api.Apply, 0), 0, api.ErrForm},
		"an Apply of one":                   {odd(api.Apply, 0, konst(0)), 0, api.ErrForm},
		"an Apply of three":                 {odd(api.Apply, 0, konst(0), konst(0), konst(0)), 0, api.ErrForm},
		"a constant with one below":         {odd(api.Const, 0, konst(0)), 0, api.ErrForm},
		"an unknown with one below":         {odd(api.Meta, 0, konst(0)), 0, api.ErrForm},
		"bound by -1":                       {bound(-1), 3, api.ErrOpen},
		"bound by one too far out":          {bound(3), 3, api.ErrOpen},
		"the same within":                   {binder(bound(4)), 3, api.ErrOpen},
		"a binder beside it doesn't count":  {applied(binder(bound(0)), bound(0)), 0, api.ErrOpen},
		"constant -1":                       {konst(-1), 0, api.ErrOpen},
		"unknown -1":                        {meta(-1), 0, api.ErrOpen},
		"an unknown within":                 {binder(applied(bound(0), meta(1))), 0, api.ErrOpen},
		"a binder of number 1":              {odd(api.Lambda, 1, konst(0)), 0, api.ErrOpen},
		"a binder of number -1":             {odd(api.Lambda, -1, konst(0)), 0, api.ErrOpen},
		"an Apply of number 1":              {odd(api.Apply, 1, konst(0), konst(0)), 0, api.ErrOpen},
		"an Apply of number -1":             {odd(api.Apply, -1, konst(0), konst(0)), 0, api.ErrOpen},
		"no form, and a number too great":   {odd(api.Bound, 9, konst(0)), 1, api.ErrForm},
		"a number, then below it no form":   {odd(api.Lambda, 1, odd(0, 0)), 0, api.ErrOpen},
		"no form, then below it a number":   {odd(api.Lambda, 0, konst(-1), konst(0)), 0, api.ErrForm},
		"a number on the left, no form":     {applied(konst(-1), odd(0, 0)), 0, api.ErrOpen},
		"no form on the left, a number":     {applied(odd(0, 0), konst(-1)), 0, api.ErrForm},
		"a number deep on the left, then":   {applied(nested(3, bound(3)), odd(0, 0)), 0, api.ErrOpen},
		"no form deep on the left, then it": {applied(nested(3, odd(0, 0)), bound(0)), 0, api.ErrForm},
	}
	for _, w := range sample.WrongLams() {
		l[w.What] = wrong{w.Lam, 0, w.Errno}
	}
	return l
}

func TestM1TermsThatMayNotBe(t *testing.T) {
	for what, w := range wrongs() {
		sameErr(t, "Check of "+what, Check(w.t, w.under), w.e)
	}
}

func TestM2Put(t *testing.T) {
	free := []string{"w", "y", "z"} // z: what the nearest binder from outside binds
	for _, c := range []struct{ body, x, want string }{
		{"z", "c1", "c1"},
		{"z", "y", "y"},
		{"z", "\\a.a y", "\\a.a y"},
		{"c1", "y", "c1"},
		{"y", "c1", "y"},
		{"w", "c1", "w"},
		{"y z w z", "c1 c2", "y (c1 c2) w (c1 c2)"},
		{"\\a.z a y", "c1", "\\a.c1 a y"},
		{"\\a.z a y", "y w", "\\a.y w a y"},
		{"\\a.\\b.z (b a) (w z)", "\\d.d y", "\\a.\\b.(\\d.d y) (b a) (w (\\d.d y))"},
		{"\\a.\\b.y", "w", "\\a.\\b.y"},
		{"\\a.\\b.a b w", "y", "\\a.\\b.a b w"},
		{"z (\\a.z (\\b.z))", "\\d.\\e.y d w e", "(\\d.\\e.y d w e) (\\a.(\\d.\\e.y d w e) (\\b.\\d.\\e.y d w e))"},
		{"(\\a.a) z", "\\a.a a", "(\\a.a) (\\a.a a)"},
	} {
		got, e := Put(parsed(t, c.body, free...), parsed(t, c.x, free[:2]...), 2)
		if textOf(got) != textOf(parsed(t, c.want, free[:2]...)) || e != api.OK {
			t.Errorf("Put of %s, %s: %s, error %d, want %s", c.body, c.x, textOf(got), e, c.want)
		}
	}
}

func TestM2PutRefuses(t *testing.T) {
	for what, c := range map[string]struct {
		body, x api.Lam
		under   int
		e       api.Errno
	}{
		"under MaxList - 1":                     {bound(api.MaxList - 1), bound(api.MaxList - 2), api.MaxList - 1, api.OK},
		"under -1":                              {konst(0), konst(0), -1, api.ErrPlace},
		"under MaxList":                         {konst(0), konst(0), api.MaxList, api.ErrPlace},
		"under the most of all":                 {konst(0), konst(0), 1<<63 - 1, api.ErrPlace},
		"under -1, and a wrong body":            {odd(0, 0), odd(0, 0), -1, api.ErrPlace},
		"under MaxList, and a wrong body":       {odd(0, 0), odd(0, 0), api.MaxList, api.ErrPlace},
		"a body bound too far out":              {bound(2), konst(0), 1, api.ErrOpen},
		"a term bound too far out":              {konst(0), bound(1), 1, api.ErrOpen},
		"a wrong body, ahead of a wrong term":   {bound(2), odd(0, 0), 1, api.ErrOpen},
		"a great body, ahead of a wrong term":   {sample.EndlessLam(), odd(0, 0), 1, api.ErrLimit},
		"a wrong term":                          {bound(0), odd(0, 0), 1, api.ErrForm},
		"a wrong term, put nowhere":             {konst(0), odd(0, 0), 1, api.ErrForm},
		"a great term":                          {bound(0), row(101, konst(0)), 0, api.ErrLimit},
		"MaxGrown":                              {row(69, bound(0)), nested(27, konst(0)), 0, api.OK},
		"MaxGrown + 1":                          {binder(row(69, bound(1))), nested(27, konst(0)), 0, api.ErrFull},
		"far more than MaxGrown":                {row(100, bound(0)), row(100, konst(0)), 0, api.ErrFull},
		"MaxGrown + 1, its last knot the first": {applied(row(69, bound(0)), konst(0)), nested(27, konst(0)), 0, api.ErrFull},
	} {
		got, e := Put(c.body, c.x, c.under)
		if e != c.e || e != api.OK && !isNone(got) {
			t.Errorf("%s: %d knots, error %d, want %d", what, sample.LamCount(got), e, c.e)
		}
	}
	got, _ := Put(row(69, bound(0)), nested(27, konst(0)), 0)
	if n := sample.LamCount(got); n != api.MaxGrown {
		t.Errorf("MaxGrown: %d knots", n)
	}
}

func TestM2PutSaysWhatCheckSays(t *testing.T) {
	for _, w := range sample.WrongLams() {
		got, e := Put(w.Lam, konst(0), 0)
		if want := Check(w.Lam, 1); e != want || e != api.OK && !isNone(got) {
			t.Errorf("a body: %s: error %d, want %d", w.What, e, want)
		}
		got, e = Put(konst(0), w.Lam, 0)
		if e != w.Errno || !isNone(got) {
			t.Errorf("a term: %s: error %d, want %d", w.What, e, w.Errno)
		}
	}
}

// With names that no two binders share it is enough to write one thing for another.
func TestM2PutIsThatOfNames(t *testing.T) {
	d := sample.Die(7)
	for range 3000 {
		under := d.Roll(4)
		body, x := d.Lam(6, under+1, 2), d.Lam(4, under, 2)
		if sample.LamCount(body) > api.MaxNodes {
			continue
		}
		count, outside := 0, sample.Outside(under+1)
		n := sample.WithNames(body, outside, &count)
		m := sample.WithNames(x, outside[:under], &count)
		want := sample.WithoutNames(n.Replace(outside[under], m), outside[:under])
		got, e := Put(body, x, under)
		if textOf(got) != textOf(want) || e != api.OK {
			t.Fatalf("Put of %s, %s, under %d: %s, error %d, want %s", textOf(body), textOf(x), under, textOf(got), e, textOf(want))
		}
		sameErr(t, "Check of it", Check(got, under), checkOfCount(got))
	}
}

// checkOfCount: what is put together may have too many knots, and nothing else wrong.
func checkOfCount(t api.Lam) api.Errno {
	if sample.LamCount(t) > api.MaxNodes {
		return api.ErrLimit
	}
	return api.OK
}

// numbered are so many names.
func numbered(many int) []string {
	var l []string
	for i := range many {
		l = append(l, "n"+strconv.Itoa(i))
	}
	return l
}

// wrongNames are lists of names that may not be.
func wrongNames() map[string]struct {
	free []string
	e    api.Errno
} {
	type row = struct {
		free []string
		e    api.Errno
	}
	return map[string]row{
		"MaxList + 1":                  {numbered(api.MaxList + 1), api.ErrLimit},
		"MaxList + 1, wrong ones":      {make([]string, api.MaxList+1), api.ErrLimit},
		"an empty name":                {[]string{""}, api.ErrName},
		"a digit first":                {[]string{"1a"}, api.ErrName},
		"a name of MaxName + 1":        {[]string{"abcdefghi"}, api.ErrName},
		"another sign":                 {[]string{"a b"}, api.ErrName},
		"x":                            {[]string{"x"}, api.ErrName},
		"x1":                           {[]string{"y", "x1"}, api.ErrName},
		"c":                            {[]string{"c"}, api.ErrName},
		"ca":                           {[]string{"y", "z", "ca"}, api.ErrName},
		"twice":                        {[]string{"y", "y"}, api.ErrTwice},
		"twice, not side by side":      {[]string{"y", "z", "y"}, api.ErrTwice},
		"x, twice":                     {[]string{"x", "x"}, api.ErrName},
		"twice, then a wrong one":      {[]string{"y", "y", "x"}, api.ErrTwice},
		"a wrong one, then twice":      {[]string{"y", "x", "y"}, api.ErrName},
		"the last of MaxList is wrong": {append(numbered(api.MaxList-1), "n0"), api.ErrTwice},
	}
}

func TestM3NamesThatMayBe(t *testing.T) {
	for what, free := range map[string][]string{
		"none":               nil,
		"an empty list":      {},
		"one":                {"y"},
		"capitals":           {"X", "C", "X1", "C1"},
		"one within another": {"y", "yy", "Y"},
		"x, c further on":    {"ax", "bc", "wxc"},
		"of MaxName":         {"abcdefg8"},
		"MaxList":            numbered(api.MaxList),
	} {
		sameErr(t, "Names of "+what, Names(free), api.OK)
	}
}

func TestM3NamesThatMayNotBe(t *testing.T) {
	for what, w := range wrongNames() {
		sameErr(t, "Names of "+what, Names(w.free), w.e)
		s, e := Text(sample.EndlessLam(), w.free)
		if s != "" || e != w.e {
			t.Errorf("Text, %s: %q, error %d, want %d", what, s, e, w.e)
		}
		x, e := Parse(strings.Repeat("(", api.MaxText+1), w.free)
		if !isNone(x) || e != w.e {
			t.Errorf("Parse, %s: %v, error %d, want %d", what, x, e, w.e)
		}
	}
}

func TestM3Text(t *testing.T) {
	id := binder(bound(0))
	for _, c := range []struct {
		t    api.Lam
		free string
		want string
	}{
		{konst(0), "", "c0"},
		{konst(api.MaxList - 1), "", "c39"},
		{bound(0), "y z", "z"},
		{bound(1), "y z", "y"},
		{id, "", `\x0.x0`},
		{binder(bound(1)), "y", `\x0.y`},
		{binder(bound(2)), "y z", `\x0.y`},
		{nested(2, applied(bound(0), bound(1))), "", `\x0.\x1.x1 x0`},
		{nested(12, applied(bound(0), bound(11), bound(1))), "", `\x0.\x1.\x2.\x3.\x4.\x5.\x6.\x7.\x8.\x9.\x10.\x11.x11 x0 x10`},
		{binder(applied(bound(0), id, bound(0))), "", `\x0.x0 (\x1.x1) x0`},
		{applied(konst(1), konst(2)), "", "c1 c2"},
		{applied(konst(1), konst(2), konst(3)), "", "c1 c2 c3"},
		{applied(konst(1), applied(konst(2), konst(3))), "", "c1 (c2 c3)"},
		{applied(konst(1), applied(konst(2), konst(3)), konst(4)), "", "c1 (c2 c3) c4"},
		{applied(applied(konst(1), konst(2)), applied(konst(3), konst(4))), "", "c1 c2 (c3 c4)"},
		{applied(id, konst(1)), "", `(\x0.x0) c1`},
		{applied(konst(1), id), "", `c1 (\x0.x0)`},
		{applied(id, id, id), "", `(\x0.x0) (\x0.x0) (\x0.x0)`},
		{applied(id, applied(id, id)), "", `(\x0.x0) ((\x0.x0) (\x0.x0))`},
		{binder(applied(binder(applied(bound(0), bound(1), bound(2))), bound(0))), "Q", `\x0.(\x1.x1 x0 Q) x0`},
		{binder(binder(applied(bound(3), bound(2)))), "w y", `\x0.\x1.w y`},
	} {
		s, e := Text(c.t, strings.Fields(c.free))
		if s != c.want || e != api.OK {
			t.Errorf("Text: %q, error %d, want %q", s, e, c.want)
		}
	}
}

func TestM3TextRefuses(t *testing.T) {
	for what, w := range wrongs() {
		if w.under < 0 || w.under > api.MaxList {
			continue
		}
		s, e := Text(w.t, numbered(w.under))
		if s != "" || e != w.e {
			t.Errorf("Text of %s: %q, error %d, want %d", what, s, e, w.e)
		}
	}
	all := numbered(api.MaxList)
	if s, e := Text(bound(0), all); s != all[api.MaxList-1] || e != api.OK {
		t.Errorf("Text of the nearest of MaxList: %q, error %d", s, e)
	}
	if s, e := Text(bound(api.MaxList-1), all); s != all[0] || e != api.OK {
		t.Errorf("Text of the outmost of MaxList: %q, error %d", s, e)
	}
}

// What is told of terms that may be is new memory, and reads and writes none of theirs.
func TestZ2FreshMemory(t *testing.T) {
	free := []string{"y", "z"}
	body, x := parsed(t, `z (\a.z y) z`, free...), parsed(t, `\a.a y`, "y")
	before := textOf(body) + textOf(x)
	a, _ := Put(body, x, 1)
	b, _ := Put(body, x, 1)
	want := textOf(a)
	sample.SpoilLam(a)
	if textOf(b) != want || textOf(body)+textOf(x) != before {
		t.Error("Put: memory is shared")
	}
	f := b.Subs[0].Subs[0]
	f.Subs[0] = konst(9)
	if textOf(b.Subs[1]) != textOf(x) {
		t.Error("Put: what is put twice shares memory")
	}
	sample.SpoilLam(b)
	if textOf(x) != before[len(before)-len(textOf(x)):] {
		t.Error("Put: what is put is shared")
	}
	p, _ := Parse(`(\a.a z) y`, free)
	q, _ := Parse(`(\a.a z) y`, free)
	sample.SpoilLam(p)
	if textOf(q) != textOf(parsed(t, `(\a.a z) y`, free...)) || !slices.Equal(free, []string{"y", "z"}) {
		t.Error("Parse: memory is shared")
	}
}

// Names behind the end of a list aren't written over, nor read.
func TestZ2NothingBeyond(t *testing.T) {
	all := []string{"y", "z", "w"}
	if _, e := Parse("w", all[:2]); e != api.ErrOpen {
		t.Errorf("Parse reads behind the list: error %d", e)
	}
	if _, e := Parse(`\v.\u.v y`, all[:1]); e != api.OK || !reflect.DeepEqual(all, []string{"y", "z", "w"}) {
		t.Errorf("Parse writes behind the list: %v, error %d", all, e)
	}
	if e := Names(all[:1:2]); e != api.OK {
		t.Errorf("Names: error %d", e)
	}
	subs := []api.Lam{konst(0), konst(1), konst(2)}
	if s, e := Text(odd(api.Apply, 0, subs[:2]...), nil); s != "c0 c1" || e != api.OK {
		t.Errorf("Text: %q, error %d", s, e)
	}
	if x, e := Put(odd(api.Lambda, 0, subs[:1]...), konst(3), 0); textOf(x) != textOf(binder(konst(0))) || e != api.OK {
		t.Errorf("Put: %v, error %d", x, e)
	}
	if textOf(subs[1])+textOf(subs[2]) != textOf(konst(1))+textOf(konst(2)) {
		t.Errorf("written behind a list: %v", subs)
	}
}
