package house

import (
	"slices"
	"strings"
	"testing"

	"metaprune/api"
	"metaprune/sample"
)

// many are so many lines, with the numbers 0, 1, .. for each N.
func many(n int, line string) []string {
	var l []string
	for i := range n {
		l = append(l, strings.ReplaceAll(line, "N", digits(i)))
	}
	return l
}

// broad is f above so many of a text.
func broad(many int, x string) string { return sample.Text(sample.Broad(many, sample.Knot(x))) }

// doubling is two terms that become one by terms of so many levels, each with the
// one below it twice.
func doubling(levels int) (left, right string) {
	left, right = "X0", "a"
	for i := range levels {
		left = "f(" + left + ",X" + digits(i+1) + ")"
		right = "f(" + right + ",g(X" + digits(i) + ",X" + digits(i) + "))"
	}
	return left, right
}

// wrongLine: lines ahead that are fine, and one with what is wrong.
type wrongLine struct {
	ahead []string
	line  string
	e     api.Errno
}

func behind(lines ...string) []string { return lines }

func wrongLines() []wrongLine {
	rules := many(api.MaxList, "rule aN b")
	left, right := doubling(12)
	return slices.Concat(wrongOfTerms(left, right), wrongOfLams(), []wrongLine{
		{nil, "row 9", api.ErrName}, {nil, "row a X", api.ErrName}, {nil, "row abcdefghi", api.ErrName},
		{nil, "row a b a", api.ErrTwice},
		{nil, "row " + strings.Repeat("a ", api.MaxList) + "a", api.ErrLimit},
		{nil, "rule X a", api.ErrForm}, {nil, "rule a X", api.ErrOpen}, {nil, "rule X Y", api.ErrForm},
		{rules, "rule b c", api.ErrLimit}, {rules, "rule X c", api.ErrLimit},
		{behind("rule a h(a)"), "inner 400 a", api.ErrFuel}, {behind("rule a f(a,a)"), "outer 400 f(a,a)", api.ErrFuel},
		{behind("rule h(X) f(X,X)"), "inner 99 " + tower("h(", 10, "a", ")"), api.ErrFull},
		{behind("rule a h(a)"), "inner 401 a", api.ErrPlace}, {behind("rule a h(a)"), "outer 999 a", api.ErrPlace},
		{behind("rule a h(a)"), "reach a", api.ErrLimit},
		{behind("rule h(X) " + broad(100, "X")), "reach h(" + broad(99, "a") + ")", api.ErrFull},
		{behind("rule h(X) "+broad(100, "X"), "rule h("+broad(99, "a")+") a"), "pairs", api.ErrFull},
		{many(21, "rule a bN"), "pairs", api.ErrLimit},
		{many(21, "rule a bN"), "join 401", api.ErrLimit},
		{behind("rule a h(a)"), "join 401", api.ErrPlace},
		{behind("rule a b", "rule a c", "rule b h(b)"), "join 400", api.ErrFuel},
		{many(api.MaxList, "eq a bN"), "eq a b", api.ErrLimit},
		{behind("eq a h(a)", "eq f(X,Y) f(Y,X)"), "complete 61", api.ErrPlace},
		{behind("rule a b", "eq f(X,Y) f(Y,X)"), "complete 9", api.ErrOrder},
		{behind("rule a b", "row b a", "eq b c", "eq f(X,Y) f(Y,X)"), "complete 9", api.ErrOrder},
		{behind("eq f(X,Y) f(Y,X)"), "complete 0", api.ErrFuel},
		{behind("eq a b", "eq f(a,X) X"), "same a b", api.ErrOpen},
		{behind("eq a b", "eq f(a,X) X"), "classes", api.ErrOpen},
		{nil, "same X a", api.ErrOpen}, {nil, "same a X", api.ErrOpen},
	})
}

func wrongOfTerms(left, right string) []wrongLine {
	return []wrongLine{
		{nil, "size 9", api.ErrName}, {nil, "size X(a)", api.ErrForm}, {nil, "size f(a;b)", api.ErrWord},
		{nil, "size f(a", api.ErrShort}, {nil, "size " + broad(api.MaxNodes, "a"), api.ErrLimit},
		{nil, "vars f()", api.ErrWord}, {nil, "reach f(", api.ErrShort},
		{nil, "unify a b", api.ErrClash}, {nil, "unify h(a) h(a,a)", api.ErrClash}, {nil, "unify h(X) X", api.ErrOccurs},
		{nil, "unify " + left + " " + right, api.ErrFull},
		{nil, "match a f(", api.ErrShort}, {nil, "general 9 a", api.ErrName},
		{nil, "path a X(a)", api.ErrForm}, {nil, "weight a) a", api.ErrWord},
		{nil, "eq a 9", api.ErrName}, {nil, "rule a f(a,", api.ErrShort},
		{nil, "run 9 f(a)", api.ErrForm}, {nil, "run 401 a", api.ErrPlace}, {nil, "run 401 f(a)", api.ErrForm},
		{nil, "run 0 ap(i,a)", api.ErrFuel},
		{nil, "run 400 ap(ap(ap(s,i),i),ap(ap(s,i),i))", api.ErrFuel},
		{nil, "bracket x a", api.ErrName}, {nil, "bracket ( a", api.ErrName}, {nil, "bracket 9 f(a)", api.ErrName},
		{nil, "bracket X f(a)", api.ErrForm}, {nil, "bracket X f(X)", api.ErrForm},
	}
}

func wrongOfLams() []wrongLine {
	omega := `(\y.y y) (\y.y y)`
	pairs := tower(`(\x.\p.p x x) (`, 9, `\x.x`, ")")
	return []wrongLine{
		{nil, "lam q", api.ErrOpen}, {nil, "lam c40", api.ErrOpen}, {nil, "lam c01", api.ErrOpen}, {nil, "lam 9", api.ErrName},
		{nil, `lam \y`, api.ErrShort}, {nil, `lam \y.`, api.ErrShort}, {nil, "lam (c1", api.ErrShort}, {nil, "lam c1)", api.ErrWord},
		{nil, `lam \.c1`, api.ErrWord}, {nil, `lam c1 \y.y`, api.ErrWord},
		{nil, "lam " + strings.Repeat("c1 ", api.MaxNodes/2) + "c1", api.ErrLimit},
		{nil, "eta q", api.ErrOpen}, {nil, "type (", api.ErrShort}, {nil, "comb )", api.ErrWord},
		{nil, "normal 400 " + omega, api.ErrFuel}, {nil, "normal 401 " + omega, api.ErrLimit}, {nil, "normal 401 q", api.ErrOpen},
		{nil, `normal 400 (\y.y y y) (\y.y y y)`, api.ErrFull},
		{nil, "type c1", api.ErrOpen}, {nil, `type \y.y y c1`, api.ErrOpen}, {nil, "type " + omega, api.ErrType},
		{nil, "type " + pairs, api.ErrFull},
		{nil, `comb \a.\b.\c.\d.\e.\f.` + strings.Repeat("a b c d e f ", 12) + "c1", api.ErrFull},
	}
}

func TestQ1Errors(t *testing.T) {
	for _, w := range wrongLines() {
		is(t, w.ahead, w.line, errorOf(w.e))
	}
}

// Words are read in order, ahead of all else: what they tell comes after.
func TestQ1WordsFirst(t *testing.T) {
	rules, equations := many(api.MaxList, "rule aN b"), many(api.MaxList, "eq a bN")
	open := behind("eq f(a,X) X", "rule a h(a)")
	for _, w := range []wrongLine{
		{nil, "unify 9 f(", api.ErrName}, {nil, "unify f( 9", api.ErrShort}, {nil, "match X(a) )", api.ErrForm},
		{nil, "general a f(", api.ErrShort}, {nil, "path ) f(", api.ErrWord}, {nil, "weight f( )", api.ErrShort},
		{nil, "inner x f(", api.ErrWord}, {nil, "inner 9 f(", api.ErrShort}, {nil, "inner 999 f(", api.ErrShort},
		{nil, "outer 1000 9", api.ErrWord}, {nil, "outer 999 9", api.ErrName},
		{rules, "rule b f(", api.ErrShort}, {rules, "rule 9 f(", api.ErrName}, {rules, "rule X f(", api.ErrShort},
		{equations, "eq a f(", api.ErrShort}, {equations, "eq 9 f(", api.ErrName},
		{open, "same f( 9", api.ErrShort}, {open, "same a 9", api.ErrName}, {open, "same a X", api.ErrOpen},
		{open, "reach 9", api.ErrName}, {open, "join 00", api.ErrWord}, {open, "complete 061", api.ErrWord},
		{nil, "run 01 f(", api.ErrWord}, {nil, "run 401 f(", api.ErrShort},
		{nil, "bracket x f(", api.ErrShort}, {nil, "bracket 9 X(a)", api.ErrForm}, {nil, "bracket f( 9", api.ErrName},
		{nil, "normal x (", api.ErrWord}, {nil, "normal 999 (", api.ErrShort},
		{nil, "normal 01 c1 ", api.ErrWord}, {nil, "normal 999 c1 ", api.ErrShort},
	} {
		is(t, w.ahead, w.line, errorOf(w.e))
	}
}

// asked is what tells all that stands in a book. What makes other rules comes last.
func asked() []string {
	return behind("classes", "same a b", "inner 9 f(a,k(b))", "outer 9 f(a,k(b))", "pairs", "path a b", "path b a", "weight k(a) h(b)", "rule z0 z", "eq z0 z", "pairs", "classes", "complete 20", "inner 9 f(a,k(b))")
}

func session(lines ...[]string) string { return Session(strings.Join(slices.Concat(lines...), "\n")) }

// changesNothing: if a line is refused lines behind it are answered as without it.
func changesNothing(t *testing.T, ahead []string, line string) {
	t.Helper()
	told := one(t, ahead, line)
	if told != "bad" && !strings.HasPrefix(told, "error ") {
		return
	}
	first := strings.Repeat("ok\n", len(ahead))
	want := first + told + "\n" + strings.TrimPrefix(session(ahead, asked()), first)
	sameLines(t, "a line that is refused", line, session(ahead, behind(line), asked()), want)
}

func TestQ1ErrorsChangeNothing(t *testing.T) {
	fine := behind("row b a h", "rule k(X) X", "rule k(a) h(a)", "eq a b", "eq h(a) h(h(b))")
	for _, line := range behind("foo", "", "clear ", "clear a", "rule a", "eq a", "rule a b c", "eq a b c", "complete", "complete x", "row a  b") {
		changesNothing(t, fine, line)
	}
	for _, w := range wrongLines() {
		changesNothing(t, w.ahead, w.line)
		changesNothing(t, fine, w.line)
	}
}
