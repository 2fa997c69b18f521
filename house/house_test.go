package house

import (
	"slices"
	"strconv"
	"strings"
	"testing"

	"metaprune/api"
)

// lines parts what is written as in the document's examples, "line => answer": what
// is asked and what is told, each ended by a newline.
func lines(text string) (asked, told string) {
	for line := range strings.Lines(text) {
		left, right, ok := strings.Cut(strings.TrimSuffix(line, "\n"), "=>")
		if !ok {
			continue
		}
		asked += strings.TrimRight(left, " ") + "\n"
		told += strings.TrimPrefix(right, " ") + "\n"
	}
	return asked, told
}

// tells: such lines are answered so, one behind the other.
func tells(t *testing.T, what, text string) {
	t.Helper()
	asked, told := lines(text)
	sameLines(t, what, asked, Session(asked), told)
}

// sameLines tells of the first line that is not as it should be.
func sameLines(t *testing.T, what, asked, got, want string) {
	t.Helper()
	if got == want {
		return
	}
	g, w := strings.Split(got, "\n"), strings.Split(want, "\n")
	for i := range min(len(g), len(w)) {
		if g[i] != w[i] {
			t.Errorf("%s: line %d of %.200q: %.300q, want %.300q", what, i, asked, g[i], w[i])
			return
		}
	}
	t.Errorf("%s: %d lines, want %d: %.300q", what, len(g), len(w), got)
}

// one is the answer of a line behind others.
func one(t *testing.T, ahead []string, line string) string {
	t.Helper()
	out := strings.Split(Session(strings.Join(append(slices.Clone(ahead), line), "\n")+"\n"), "\n")
	if len(out) != len(ahead)+2 {
		t.Fatalf("%.80q: %d answers behind %d lines", line, len(out)-1, len(ahead))
	}
	return out[len(ahead)]
}

// is: a line, behind those ahead, is answered so.
func is(t *testing.T, ahead []string, line, want string) {
	t.Helper()
	if got := one(t, ahead, line); got != want {
		t.Errorf("behind %.200q: %.120q: %.300q, want %.300q", ahead, line, got, want)
	}
}

func errorOf(e api.Errno) string { return "error " + strconv.Itoa(int(e)) }

const document = `
size f(a,g(X,b))                            => 5
vars f(Y,g(X,Y))                            => = Y X
unify f(X,Y) f(Y,h(Z))                      => = X:h(Z) Y:h(Z)
unify f(X,b) f(a,Y)                         => = X:a Y:b
unify X h(X)                                => error 6
match f(X,X) f(h(a),h(a))                   => = X:h(a)
match f(X,X) f(a,b)                         => no
general f(a,h(a)) f(b,h(b))                 => f(Z1,h(Z1))
row a h f                                   => ok
path f(h(X),Y) h(f(X,Y))                    => yes
weight f(h(X),Y) h(f(X,Y))                  => yes
rule f(a,X) X                               => ok
rule f(h(X),Y) h(f(X,Y))                    => ok
rule X a                                    => error 2
inner 9 f(h(h(a)),b)                        => 3 h(h(b))
outer 1 f(h(h(a)),b)                        => error 9
reach f(h(a),b)                             => f(h(a),b) h(b) h(f(a,b))
rule f(f(X,Y),Z) f(X,f(Y,Z))                => ok
pairs                                       => = f(a,f(Z1,Z2))>f(Z1,Z2) f(h(Z1),f(Z2,Z3))>f(h(f(Z1,Z2)),Z3) f(f(Z1,Z2),f(Z3,Z4))>f(f(Z1,f(Z2,Z3)),Z4)
join 50                                     => yes
clear                                       => ok
eq h(h(h(a))) a                             => ok
eq h(h(h(h(h(a))))) a                       => ok
same h(a) a                                 => yes
classes                                     => = a=h(a)=h(h(a))=h(h(h(a)))=h(h(h(h(a))))=h(h(h(h(h(a)))))
complete 20                                 => = h(a)>a
clear                                       => ok
row e f i                                   => ok
eq f(e,X) X                                 => ok
eq f(i(X),X) e                              => ok
eq f(f(X,Y),Z) f(X,f(Y,Z))                  => ok
complete 60                                 => error 9
run 20 ap(ap(ap(s,k),k),c1)                 => 2 c1
bracket X ap(ap(f,X),X)                     => ap(ap(s,f),i)
lam \y.\z.y (z y)                           => \x0.\x1.x0 (x1 x0)
normal 20 (\f.\x.f (f x)) (\f.\x.f (f x))   => 6 \x0.\x1.x0 (x0 (x0 (x0 x1)))
eta \y.c1 y                                 => c1
type \f.\g.\x.f (g x)                       => (a0>a1)>(a2>a0)>a2>a1
type \y.y y                                 => error 11
comb \y.\z.z y                              => ap(ap(s,ap(k,ap(s,i))),k)
foo                                         => bad
`

func TestQ1Document(t *testing.T) { tells(t, "the document's lines", document) }

// Of a line there is more to tell than the document's examples do.
func TestQ1EachLineAlone(t *testing.T) {
	tells(t, "terms", `
size a                    => 1
size X                    => 1
vars a                    => =
vars X                    => = X
vars f(f(Z,Y),f(X,Z))     => = Z Y X
unify a a                 => =
unify X X                 => =
unify X a                 => = X:a
unify a X                 => = X:a
unify f(Y,X) f(X,Y)       => = Y:X
match a a                 => =
match X X                 => = X:X
match f(Y,X) f(X,h(Y))    => = X:h(Y) Y:X
match a X                 => no
match h(a) X              => no
general a a               => a
general a b               => Z1
general f(a,b,X) f(b,a,X) => f(Z1,Z2,Z3)
general h(a) k(a)         => Z1
path X X                  => no
path h(X) X               => yes
path X h(X)               => no
weight h(X) X             => yes
weight h(X) Y             => no
path k(a) h(h(a))         => yes
weight k(a) h(h(a))       => no
path h(h(a)) k(a)         => no
weight h(h(a)) k(a)       => yes
`)
	tells(t, "without what is bound, and lambda terms", `
run 0 a                   => 0 a
run 9 ap(ap(k,X),b)       => 1 X
run 9 ap(i,ap(i,a))       => 2 a
bracket X X               => i
bracket X a               => ap(k,a)
bracket X ap(a,X)         => a
bracket Y ap(X,a)         => ap(k,ap(X,a))
lam c1                    => c1
lam (c1)                  => c1
lam c1 c2 c3              => c1 c2 c3
lam c1 (c2 c3)            => c1 (c2 c3)
lam \y.y y y              => \x0.x0 x0 x0
lam (\y.y) (\z.z)         => (\x0.x0) (\x0.x0)
normal 0 c1               => 0 c1
normal 0 \y.y c2          => 0 \x0.x0 c2
normal 1 (\y.y) c1        => 1 c1
normal 9 (\y.\z.y) c1 c2  => 2 c1
eta \y.y                  => \x0.x0
eta \y.\z.c1 y z          => c1
eta \y.y y                => \x0.x0 x0
eta (\y.y) c1             => (\x0.x0) c1
type \y.y                 => a0>a0
type \y.\z.y              => a0>a1>a0
type (\y.y) (\z.z)        => a0>a0
comb c1                   => c1
comb c1 c2                => ap(c1,c2)
comb \y.y                 => i
comb \y.c1 y              => c1
`)
}

// What stands in the book, none at first.
func TestQ1EmptyBook(t *testing.T) {
	tells(t, "an empty book", `
inner 0 h(a)    => 0 h(a)
outer 0 h(a)    => 0 h(a)
reach h(X)      => h(X)
pairs           => =
join 0          => yes
complete 0      => =
same a a        => yes
same a b        => no
path b a        => yes
path a b        => no
`)
	is(t, nil, "classes", "=")
	is(t, nil, "clear", "ok")
	is(t, nil, "row", "ok")
}

func TestQ1Row(t *testing.T) {
	tells(t, "a row", `
path a b     => no
row b a      => ok
path a b     => yes
weight a b   => yes
path c a     => no
row a b      => ok
path a b     => no
weight b a   => yes
row c        => ok
path c b     => yes
path a b     => no
row          => ok
path c b     => yes
path a c     => no
`)
}

func TestQ1Rules(t *testing.T) {
	tells(t, "rules, in order", `
rule a b         => ok
rule a c         => ok
rule h(b) d      => ok
inner 9 h(a)     => 2 d
outer 9 f(a,a)   => 2 f(b,b)
reach h(a)       => d h(a) h(b) h(c)
join 9           => no
rule b e         => ok
rule c e         => ok
inner 9 h(a)     => 2 h(e)
`)
	is(t, []string{"rule a b", "rule a c"}, "pairs", "= b>c c>b")
	tells(t, "how far", `
rule h(X) k(X,X) => ok
rule a b         => ok
inner 2 h(a)     => 2 k(b,b)
inner 1 h(a)     => error 9
outer 3 h(a)     => 3 k(b,b)
outer 2 h(a)     => error 9
`)
}

func TestQ1Equations(t *testing.T) {
	ahead := []string{"eq a b", "eq b c", "eq h(a) h(b)", "eq d d", "row a h b c d"}
	for _, c := range [][2]string{
		{"classes", "= a=b=c d h(a)=h(b)"},
		{"same h(a) h(c)", "yes"},
		{"same h(a) d", "no"},
		{"complete 3", "error 9"},
		{"complete 4", "= b>a c>a"},
	} {
		is(t, ahead, c[0], c[1])
	}
	is(t, []string{"eq h(a) d", "row a h d"}, "complete 9", "= d>h(a)")
	is(t, []string{"eq h(a) d", "row d a h"}, "complete 9", "= h(a)>d")
}

// Rules that are made of equations are the rules then, and no others; equations and
// row stay.
func TestQ1CompleteMakesTheRules(t *testing.T) {
	ahead := []string{"rule c d", "row a b c", "eq b a", "complete 9"}
	is(t, ahead[:3], "complete 9", "= b>a")
	is(t, ahead, "inner 9 f(b,c)", "1 f(a,c)")
	is(t, ahead, "complete 9", "= b>a")
	is(t, ahead, "classes", "= a=b")
	is(t, ahead, "path c b", "yes")
	is(t, append(slices.Clone(ahead), "rule c a"), "inner 9 f(b,c)", "2 f(a,a)")
	is(t, append(slices.Clone(ahead), "rule a c"), "pairs", "=")
}

func TestQ1Clear(t *testing.T) {
	ahead := []string{"rule a b", "eq a b", "row b a", "clear"}
	for _, c := range [][2]string{
		{"inner 9 a", "0 a"}, {"same a b", "no"}, {"classes", "="}, {"path a b", "no"}, {"complete 9", "="},
	} {
		is(t, ahead, c[0], c[1])
	}
	is(t, append(slices.Clone(ahead), "rule a c", "eq a c", "row c a"), "inner 9 a", "1 c")
	is(t, append(slices.Clone(ahead), "rule a c", "eq a c", "row c a"), "classes", "= a=c")
}
