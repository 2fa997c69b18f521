package long

import (
	"maps"
	"strconv"
	"testing"

	"metaprune/api"
	"metaprune/infer"
	"metaprune/reduce"
	"metaprune/sample"
)

// plain does word by word what the promise says, of terms with names, which no two
// binders share.
type plain struct{ fresh int }

func (p *plain) long(n sample.Named, ty api.Type, types map[string]api.Type) sample.Named {
	if len(ty.Subs) == 0 {
		out, _ := p.row(n, types)
		return out
	}
	name, body := n.Name, n
	if len(n.Subs) == 1 {
		body = n.Subs[0]
	} else {
		p.fresh++
		name = "w" + strconv.Itoa(p.fresh)
		body = sample.Named{Subs: []sample.Named{n, {Name: name}}}
	}
	inside := maps.Clone(types)
	inside[name] = ty.Subs[0]
	return sample.Named{Name: name, Subs: []sample.Named{p.long(body, ty.Subs[1], inside)}}
}

func (p *plain) row(n sample.Named, types map[string]api.Type) (sample.Named, api.Type) {
	if len(n.Subs) == 0 {
		return n, types[n.Name]
	}
	f, ty := p.row(n.Subs[0], types)
	x := p.long(n.Subs[1], ty.Subs[0], types)
	return sample.Named{Subs: []sample.Named{f, x}}, ty.Subs[1]
}

// plainLong is that of a term that has the type.
func plainLong(x api.Lam, ty api.Type, most int) (api.Lam, api.Errno) {
	x, _, e := reduce.Normal(x, 0, most)
	if e != api.OK {
		return api.Lam{}, e
	}
	var p plain
	count := 0
	n := p.long(sample.WithNames(x, nil, &count), ty, map[string]api.Type{})
	if n.Count() > api.MaxGrown {
		return api.Lam{}, api.ErrFull
	}
	return sample.WithoutNames(n, nil), api.OK
}

// drawn is a closed term that has a type, and that, sometimes with greater types for
// its bases.
func drawn(d *sample.Die) (api.Lam, api.Type) {
	x, ty := d.Closed(5 + d.Roll(5))
	if d.Roll(2) == 0 {
		return x, ty
	}
	deep := 1 + d.Roll(4)
	great := sample.TypeWithAll(ty, []api.Type{d.Type(deep, 3), d.Type(deep, 3)})
	if sample.TypeCount(great) > api.MaxNodes {
		return x, ty
	}
	return x, great
}

func TestR1WordByWord(t *testing.T) {
	d := sample.Die(79)
	told := map[api.Errno]int{}
	longer := 0
	for range 5000 {
		x, ty := drawn(&d)
		most := d.Roll(30)
		if d.Roll(10) == 0 {
			x, ty, most = church(20+d.Roll(60)), churchType(d.Type(5, 2)), 9
			if sample.TypeCount(ty) > api.MaxNodes {
				continue
			}
		}
		y, e := Long(x, ty, most)
		want, f := plainLong(x, ty, most)
		if textOf(y) != textOf(want) || e != f {
			t.Fatalf("Long of %s, %s: %s, error %d, want %s, error %d", textOf(x), sample.TypeText(ty), textOf(y), e, textOf(want), f)
		}
		told[e]++
		if sample.LamCount(y) > sample.LamCount(x) {
			longer++
		}
	}
	for _, e := range []api.Errno{api.OK, api.ErrFuel, api.ErrFull} {
		if told[e] < 50 {
			t.Errorf("error %d is told just %d times", e, told[e])
		}
	}
	if longer < 500 {
		t.Errorf("just %d became longer", longer)
	}
}

// isLong: is all of x long? Then it has as many binders as its type has arrows, and
// what stands at the front of each row is applied to as many as that has.
func isLong(x api.Lam, ty api.Type, around []api.Type) bool {
	if len(ty.Subs) == 2 {
		return x.Kind == api.Lambda && isLong(x.Subs[0], ty.Subs[1], append([]api.Type{ty.Subs[0]}, around...))
	}
	got, ok := frontType(x, around)
	return ok && sample.TypeText(got) == sample.TypeText(ty)
}

func frontType(x api.Lam, around []api.Type) (api.Type, bool) {
	if x.Kind != api.Apply {
		return around[x.Index], x.Kind == api.Bound
	}
	f, ok := frontType(x.Subs[0], around)
	if !ok || len(f.Subs) == 0 || !isLong(x.Subs[1], f.Subs[0], around) {
		return api.Type{}, false
	}
	return f.Subs[1], true
}

// The long form is long, has the type, does what the term does, and is its own long
// form.
func TestR1LongForms(t *testing.T) {
	d := sample.Die(83)
	for range 4000 {
		x, ty := drawn(&d)
		y, e := Long(x, ty, api.MaxFuel)
		if e != api.OK || sample.LamCount(y) > api.MaxNodes {
			continue
		}
		if !isLong(y, ty, nil) {
			t.Fatalf("Long of %s, %s: %s isn't long", textOf(x), sample.TypeText(ty), textOf(y))
		}
		if ok, e := infer.Has(y, ty); !ok || e != api.OK {
			t.Fatalf("Long of %s, %s: %s has another type: error %d", textOf(x), sample.TypeText(ty), textOf(y), e)
		}
		if z, e := Long(y, ty, 0); textOf(z) != textOf(y) || e != api.OK {
			t.Fatalf("Long of %s, which is long, %s: %s, error %d", textOf(y), sample.TypeText(ty), textOf(z), e)
		}
		if short(y) != short(x) {
			t.Fatalf("Long of %s, %s: %s does something else", textOf(x), sample.TypeText(ty), textOf(y))
		}
	}
}

// short is what a term comes to at last, without binders that do nothing. (They may
// have been of use for what is to be worked out: so that is done first.)
func short(x api.Lam) string {
	x, _, e := reduce.Normal(x, 0, api.MaxFuel)
	if e != api.OK {
		return "?"
	}
	x, e = reduce.Eta(x, 0)
	if e != api.OK {
		return "?"
	}
	return textOf(x)
}

// Long forms are told by what terms do: two of them are the same just if these are,
// without binders that do nothing.
func TestR1AlikeIsWhatTermsDo(t *testing.T) {
	d := sample.Die(89)
	told := map[bool]int{}
	last := map[string]api.Lam{}
	for range 6000 {
		x, ty := d.Closed(4 + d.Roll(5))
		y, found := last[sample.TypeText(ty)]
		last[sample.TypeText(ty)] = x
		a, b := short(x), short(y)
		if !found || a == "?" || b == "?" {
			continue
		}
		ok, e := Alike(x, y, ty, api.MaxFuel)
		if ok != (a == b) || e != api.OK {
			t.Fatalf("Alike of %s, %s: %v, error %d", textOf(x), textOf(y), ok, e)
		}
		told[ok]++
	}
	if told[true] < 300 || told[false] < 300 {
		t.Errorf("alike or not: %v", told)
	}
}

// Numbers are worked with as their values are: more of them, times, to the power of.
func TestR2Numbers(t *testing.T) {
	more, times := parsed(t, `\m.\n.\f.\x.m f (n f x)`), parsed(t, `\m.\n.\f.m (n f)`)
	for m := range 6 {
		for n := range 6 {
			a, _ := Number(m)
			b, _ := Number(n)
			for _, c := range []struct {
				what string
				x    api.Lam
				want int
			}{
				{"more", sample.Applied(more, a, b), m + n},
				{"times", sample.Applied(times, a, b), m * n},
				{"power", sample.Applied(a, b), power(n, m)},
			} {
				if c.want > 700 { // its steps are too many, or too great
					continue
				}
				if got, e := Value(c.x, api.MaxFuel); got != c.want || e != api.OK {
					t.Errorf("%d %s %d: %d, error %d, want %d", m, c.what, n, got, e, c.want)
				}
			}
		}
	}
}

func power(n, times int) int {
	out := 1
	for range times {
		out *= n
	}
	return out
}
