package infer

import (
	"strconv"
	"strings"
	"testing"

	"metaprune/api"
	"metaprune/reduce"
	"metaprune/sample"
)

// plainAsker gathers equations of a term with names, which no two binders share: what
// a binder binds has a type variable of its name.
type plainAsker struct {
	l     []api.Pair
	fresh int
}

func (a *plainAsker) typeOf(n sample.Named) api.Term {
	switch len(n.Subs) {
	case 0:
		return sample.Knot(strings.ToUpper(n.Name))
	case 1:
		return sample.Knot("f", sample.Knot(strings.ToUpper(n.Name)), a.typeOf(n.Subs[0]))
	}
	f := a.typeOf(n.Subs[0])
	x := a.typeOf(n.Subs[1])
	a.fresh++
	v := sample.Knot("W" + strconv.Itoa(a.fresh))
	a.l = append(a.l, api.Pair{Left: f, Right: sample.Knot("f", x, v)})
	return v
}

// plainPrincipal does word by word what the promise says.
func plainPrincipal(t api.Lam) (api.Type, api.Errno) {
	var a plainAsker
	count := 0
	whole := a.typeOf(sample.WithNames(t, nil, &count))
	s, e := sample.Unify(a.l)
	if e == api.ErrOccurs {
		return api.Type{}, api.ErrType
	}
	if e != api.OK {
		return api.Type{}, e
	}
	whole = sample.WithAll(whole, s)
	if sample.Count(whole) > api.MaxGrown {
		return api.Type{}, api.ErrFull
	}
	var names []string
	return plainNumbered(whole, &names), api.OK
}

func plainNumbered(t api.Term, names *[]string) api.Type {
	if len(t.Args) == 2 {
		from := plainNumbered(t.Args[0], names)
		return arrow2(from, plainNumbered(t.Args[1], names))
	}
	for i, name := range *names {
		if name == t.Name {
			return base(i)
		}
	}
	*names = append(*names, t.Name)
	return base(len(*names) - 1)
}

// drawnClosed is a closed term without constants.
func drawnClosed(d *sample.Die, deep int) api.Lam {
	for {
		if x := binder(d.Lam(deep, 1, 0)); sample.LamCount(x) <= api.MaxNodes {
			return x
		}
	}
}

// drawnGreat is one whose type grows, or that of something in it.
func drawnGreat(d *sample.Die) api.Lam {
	x := binder(d.Lam(2, 1, 0))
	if d.Roll(3) > 0 {
		x, _ = d.Closed(4)
	}
	for range d.Roll(10) {
		switch d.Roll(6) {
		case 0:
			x = tuple(x, drawnClosed(d, 2))
		case 1:
			x = tuple(id(), x, x)
		case 2:
			x = applied(binder(id()), x)
		default:
			x = doubled(1+d.Roll(3), x)
		}
	}
	if sample.LamCount(x) > api.MaxNodes {
		return drawnGreat(d)
	}
	return x
}

func TestP2WordByWord(t *testing.T) {
	d := sample.Die(61)
	told := map[api.Errno]int{}
	for i := range 3000 {
		x := drawnClosed(&d, 5)
		if i%3 == 1 {
			x, _ = d.Closed(9)
		}
		if i%3 == 2 {
			x = drawnGreat(&d)
		}
		ty, e := Principal(x)
		want, f := plainPrincipal(x)
		if e != f || textOf(ty) != textOf(want) {
			t.Fatalf("Principal of %s: %s, error %d, want %s, error %d", sample.LamText(x), textOf(ty), e, textOf(want), f)
		}
		told[e]++
	}
	for _, e := range []api.Errno{api.OK, api.ErrType, api.ErrFull} {
		if told[e] < 100 {
			t.Errorf("error %d is told just %d times", e, told[e])
		}
	}
}

// What has a type by the way in which it is made has it.
func TestP2HasWhatItIsMadeFor(t *testing.T) {
	d := sample.Die(67)
	great := 0
	for range 5000 {
		x, ty := d.Closed(10)
		if ok, e := Has(x, ty); !ok || e != api.OK {
			t.Fatalf("Has of %s, %s: %v, error %d", sample.LamText(x), textOf(ty), ok, e)
		}
		if sample.LamCount(x) > 20 {
			great++
		}
	}
	if great < 500 {
		t.Errorf("just %d were great", great)
	}
}

// has asks a closed term in which nothing is to be worked out: there each type is
// given by those of the binders around it.
func has(x api.Lam, ty api.Type, around []api.Type) bool {
	if x.Kind == api.Lambda {
		return len(ty.Subs) == 2 && has(x.Subs[0], ty.Subs[1], append([]api.Type{ty.Subs[0]}, around...))
	}
	got, ok := frontType(x, around)
	return ok && textOf(got) == textOf(ty)
}

func frontType(x api.Lam, around []api.Type) (api.Type, bool) {
	if x.Kind == api.Bound {
		return around[x.Index], true
	}
	f, ok := frontType(x.Subs[0], around)
	if !ok || len(f.Subs) == 0 || !has(x.Subs[1], f.Subs[0], around) {
		return api.Type{}, false
	}
	return f.Subs[1], true
}

// allNormal are all terms of at most so many knots in which nothing is to be worked
// out, under so many binders.
func allNormal(knots, under int) []api.Lam {
	var out []api.Lam
	if knots < 1 {
		return nil
	}
	for i := range under {
		out = append(out, bound(i))
	}
	for _, x := range allNormal(knots-1, under+1) {
		out = append(out, binder(x))
	}
	for _, f := range allNormal(knots-2, under) {
		if f.Kind == api.Lambda {
			continue
		}
		for _, x := range allNormal(knots-1-sample.LamCount(f), under) {
			out = append(out, applied(f, x))
		}
	}
	return out
}

// allTypes are all types of at most so many bases, of which there are two.
func allTypes(bases int) []api.Type {
	out := []api.Type{base(0), base(1)}
	if bases < 2 {
		return out
	}
	for _, from := range allTypes(bases - 1) {
		for _, to := range allTypes(bases - (sample.TypeCount(from)+1)/2) {
			out = append(out, arrow2(from, to))
		}
	}
	return out
}

func TestP2HasOfAllThatAreSmall(t *testing.T) {
	types := allTypes(5)
	yes := 0
	for _, x := range allNormal(7, 0) {
		for _, ty := range types {
			want := has(x, ty, nil)
			if ok, e := Has(x, ty); ok != want || e != api.OK {
				t.Fatalf("Has of %s, %s: %v, error %d, want %v", sample.LamText(x), textOf(ty), ok, e, want)
			}
			if want {
				yes++
			}
		}
	}
	if yes < 200 {
		t.Errorf("just %d had the type", yes)
	}
}

// Each case of its type is one of its types, and nothing else is: told by those of
// what it comes to.
func TestP2HasAllCases(t *testing.T) {
	d := sample.Die(71)
	no := 0
	for range 3000 {
		x, other := d.Closed(9)
		p, e := Principal(x)
		if e != api.OK {
			t.Fatalf("Principal of %s: error %d", sample.LamText(x), e)
		}
		ty := sample.TypeWithAll(p, []api.Type{d.Type(2, 3), d.Type(1, 3), base(2), d.Type(2, 3)})
		if sample.TypeCount(ty) > api.MaxNodes {
			continue
		}
		if ok, e := Has(x, ty); !ok || e != api.OK {
			t.Fatalf("Has of %s, %s: %v, error %d", sample.LamText(x), textOf(ty), ok, e)
		}
		// What is worked out may have more types, but not fewer.
		y, _, e := reduce.Normal(x, 0, api.MaxFuel)
		if e != api.OK {
			continue
		}
		for _, ty := range []api.Type{ty, other, d.Type(3, 2), sample.TypeWithAll(other, []api.Type{base(1), d.Type(1, 2)})} {
			ok, _ := Has(x, ty)
			if ok && !has(y, ty, nil) {
				t.Fatalf("%s has %s, but %s, to which it comes, doesn't", sample.LamText(x), textOf(ty), sample.LamText(y))
			}
			if !ok {
				no++
			}
		}
	}
	if no < 500 {
		t.Errorf("just %d had not the type", no)
	}
}

// A term keeps its type, whatever steps are taken.
func TestP2StepsKeepTheType(t *testing.T) {
	d := sample.Die(73)
	asked := 0
	for range 3000 {
		x, _ := d.Closed(9)
		p, _ := Principal(x)
		l, e := reduce.Steps(x, 0)
		if e != api.OK || sample.TypeCount(p) > api.MaxNodes {
			continue
		}
		for _, y := range l {
			if sample.LamCount(y) > api.MaxNodes {
				continue
			}
			if ok, e := Has(y, p); !ok || e != api.OK {
				t.Fatalf("%s has %s, but %s hasn't: error %d", sample.LamText(x), textOf(p), sample.LamText(y), e)
			}
			asked++
		}
	}
	if asked < 1000 {
		t.Errorf("just %d steps were asked", asked)
	}
}
