package long

import (
	"testing"

	"metaprune/api"
	"metaprune/lambda"
	"metaprune/sample"
)

var (
	base   = sample.Base
	arrow  = sample.Arrow
	arrows = sample.Arrows
	konst  = sample.Const
	textOf = sample.LamText
)

func parsed(t *testing.T, text string) api.Lam {
	t.Helper()
	x, e := lambda.Parse(text, nil)
	if e != api.OK {
		t.Fatalf("Parse(%q): error %d", text, e)
	}
	return x
}

func id() api.Lam { return sample.Binder(sample.Bound(0)) }

func self() api.Lam { return sample.Binder(sample.Applied(sample.Bound(0), sample.Bound(0))) }

// church is a numeral of any number.
func church(n int) api.Lam {
	x := sample.Bound(0)
	for range n {
		x = sample.Applied(sample.Bound(1), x)
	}
	return sample.Binders(2, x)
}

// churchType is the type of numerals, of a type.
func churchType(ty api.Type) api.Type { return arrows(ty, arrow(ty, ty), ty) }

func TestR1Long(t *testing.T) {
	a, b, c := base(0), base(1), base(2)
	f := arrow(a, a)
	for _, s := range []struct {
		text string
		ty   api.Type
		want string
	}{
		{`\x.x`, f, `\x.x`},
		{`\x.x`, arrow(f, f), `\x.\y.x y`},
		{`\x.x`, arrow(arrows(c, a, b), arrows(c, a, b)), `\x.\y.\z.x y z`},
		{`\x.x`, arrow(arrow(f, b), arrow(f, b)), `\x.\y.x (\z.y z)`},
		{`\x.x`, arrow(arrow(arrow(f, b), c), arrow(arrow(f, b), c)), `\x.\y.x (\z.y (\u.z u))`},
		{`\x.\y.x y`, arrow(f, f), `\x.\y.x y`},
		{`\x.\y.x y`, arrows(arrow(b, b), arrow(f, arrow(b, b)), f), `\x.\y.\z.x (\u.y u) z`},
		{`\x.\y.x`, arrows(a, a, b), `\x.\y.x`},
		{`\x.\y.x`, arrows(f, f, b), `\x.\y.\z.x z`},
		{`\x.\y.y`, arrows(f, a, f), `\x.\y.\z.y z`},
		{`\f.\x.f (f x)`, churchType(a), `\f.\x.f (f x)`},
		{`\f.\x.f (f x)`, churchType(f), `\f.\x.\y.f (\z.f (\u.x u) z) y`},
		{`\x.x (\y.y)`, arrow(arrow(arrow(f, f), b), b), `\x.x (\y.\z.y z)`},
		{`\x.\f.f x x`, arrows(a, f, arrows(a, f, f)), `\x.\f.f (\y.x y) (\y.x y)`},
		{`(\x.x) (\x.x)`, f, `\x.x`},
		{`(\x.x) (\x.x)`, arrow(f, f), `\x.\y.x y`},
		{`\f.(\x.x) f`, arrow(f, f), `\x.\y.x y`},
		{`\g.(\f.\x.f (f x)) (g (\x.x))`, arrow(arrow(f, f), f), `\g.\x.g (\y.y) (g (\y.y) x)`},
		{`\f.\x.\y.f (f y)`, arrows(f, arrow(f, f), b, f), `\f.\x.\y.\z.f (\u.f (\v.y v) u) z`},
	} {
		x, e := Long(parsed(t, s.text), s.ty, 9)
		want := parsed(t, s.want)
		if textOf(x) != textOf(want) || e != api.OK {
			t.Errorf("Long of %s, %s: %s, error %d, want %s", s.text, sample.TypeText(s.ty), textOf(x), e, textOf(want))
		}
	}
}

func TestR1Alike(t *testing.T) {
	a, b := base(0), base(1)
	f := arrow(a, a)
	for _, s := range []struct {
		a, b string
		ty   api.Type
		want bool
	}{
		{`\x.x`, `\x.x`, f, true},
		{`\x.x`, `\x.\y.x y`, arrow(f, f), true},
		{`\x.\y.x y`, `\x.x`, arrow(f, f), true},
		{`\x.\y.x (x y)`, `\x.x`, arrow(f, f), false},
		{`\x.\y.y`, `\x.\y.x`, arrows(a, a, a), false},
		{`\x.\y.y`, `\x.\y.y`, arrows(a, a, a), true},
		{`\x.\y.y`, `(\x.\y.x) (\x.x)`, arrows(a, b, a), true},
		{`\f.\x.f x`, `\f.f`, churchType(f), true},
		{`\f.\x.f (f x)`, `\f.\x.f (\y.f x y)`, churchType(f), true},
		{`\f.\x.f (f x)`, `\f.\x.f (\y.f (\z.x z) y)`, churchType(f), true},
		{`\f.\x.f (f x)`, `\f.\x.f (\y.f (\z.x (x z)) y)`, churchType(f), false},
		{`\x.x (\y.y)`, `\x.x (\y.\z.y z)`, arrow(arrow(arrow(f, f), b), b), true},
		{`(\n.\f.\x.n f (f x)) (\f.f)`, `\f.\x.f (f x)`, churchType(a), true},
	} {
		if ok, e := Alike(parsed(t, s.a), parsed(t, s.b), s.ty, 9); ok != s.want || e != api.OK {
			t.Errorf("Alike of %s, %s: %v, error %d", s.a, s.b, ok, e)
		}
	}
}

// refused asks what Long says of a term that it refuses; Alike says that, too, whatever
// the second one is.
func refused(t *testing.T, what string, x api.Lam, ty api.Type, most int, want api.Errno) {
	t.Helper()
	if y, e := Long(x, ty, most); !sample.IsNoLam(y) || e != want {
		t.Errorf("Long of %s: %s, error %d, want %d", what, textOf(y), e, want)
	}
	for _, y := range []api.Lam{x, id(), {}, konst(0), self()} {
		if ok, e := Alike(x, y, ty, most); ok || e != want {
			t.Errorf("Alike of %s and another one: %v, error %d, want %d", what, ok, e, want)
		}
	}
}

func TestR1Refuses(t *testing.T) {
	f := arrow(base(0), base(0))
	omega := sample.Applied(self(), self())
	wrongForm := api.Lam{Kind: 9}
	for _, w := range sample.WrongTypes() {
		for _, x := range []api.Lam{id(), wrongForm, self(), konst(0)} {
			for _, most := range []int{9, -1} {
				refused(t, w.What, x, w.Type, most, w.Errno)
			}
		}
	}
	for _, w := range sample.WrongLams() {
		for _, most := range []int{9, -1, api.MaxFuel + 1} {
			refused(t, w.What, w.Lam, f, most, w.Errno)
		}
	}
	for _, most := range []int{0, 9, -1, api.MaxFuel + 1} {
		refused(t, "a constant", konst(0), f, most, api.ErrOpen)
		refused(t, "a constant within", sample.Binder(konst(0)), f, most, api.ErrOpen)
		refused(t, "no type", self(), f, most, api.ErrType)
		refused(t, "no type and no end", omega, f, most, api.ErrType)
		refused(t, "another type", id(), base(0), most, api.ErrType)
		refused(t, "another type, too", id(), arrow(base(0), base(1)), most, api.ErrType)
		refused(t, "another type and too great", sample.Binder(church(api.MaxNodes/2-2)), f, most, api.ErrType)
	}
	for _, most := range []int{-1, api.MaxFuel + 1, -1 << 63, 1<<63 - 1} {
		refused(t, "too few or too many steps", id(), f, most, api.ErrLimit)
	}
}

func TestR1AlikeOfTheSecond(t *testing.T) {
	f := arrow(base(0), base(0))
	for what, c := range map[string]struct {
		x    api.Lam
		most int
		want api.Errno
	}{
		"no kind":           {api.Lam{}, 9, api.ErrForm},
		"a constant":        {konst(0), 9, api.ErrOpen},
		"no type":           {self(), 9, api.ErrType},
		"another type":      {church(0), 9, api.ErrType},
		"one step too many": {sample.Applied(id(), sample.Applied(id(), id())), 1, api.ErrFuel},
	} {
		if ok, e := Alike(id(), c.x, f, c.most); ok || e != c.want {
			t.Errorf("Alike of %s: %v, error %d, want %d", what, ok, e, c.want)
		}
	}
	// The first one's is told.
	if ok, e := Alike(self(), konst(0), f, 9); ok || e != api.ErrType {
		t.Errorf("Alike of both wrong: %v, error %d", ok, e)
	}
	if ok, e := Alike(konst(0), self(), f, 9); ok || e != api.ErrOpen {
		t.Errorf("Alike of both wrong, turned: %v, error %d", ok, e)
	}
}

func TestR1Fuel(t *testing.T) {
	f := arrow(base(0), base(0))
	x := sample.Applied(id(), sample.Applied(id(), sample.Applied(id(), id())))
	for most := range 6 {
		y, e := Long(x, f, most)
		ok, g := Alike(id(), x, f, most)
		if most < 3 && (!sample.IsNoLam(y) || e != api.ErrFuel || ok || g != api.ErrFuel) {
			t.Errorf("at most %d: %s, error %d, %v, error %d", most, textOf(y), e, ok, g)
		}
		if most >= 3 && (textOf(y) != textOf(id()) || e != api.OK || !ok || g != api.OK) {
			t.Errorf("at most %d: %s, error %d, %v, error %d", most, textOf(y), e, ok, g)
		}
	}
	if y, e := Long(x, f, api.MaxFuel); textOf(y) != textOf(id()) || e != api.OK {
		t.Errorf("MaxFuel: %s, error %d", textOf(y), e)
	}
}

// wide is a numeral at a type so great that its long form has MaxGrown knots; each
// number more is a binder around it that does nothing, so a knot more.
func wide(more int) (api.Lam, api.Type) {
	x, ty := church(67), churchType(sample.TypeRow(10, base(0)))
	for range 27 + more {
		x, ty = sample.Binder(x), arrow(base(1), ty)
	}
	return x, ty
}

func TestR1Full(t *testing.T) {
	x, ty := wide(0)
	y, e := Long(x, ty, 0)
	if sample.LamCount(y) != api.MaxGrown || e != api.OK {
		t.Errorf("MaxGrown: %d knots, error %d", sample.LamCount(y), e)
	}
	if ok, e := Alike(x, x, ty, 0); !ok || e != api.OK {
		t.Errorf("Alike of MaxGrown: %v, error %d", ok, e)
	}
	for _, more := range []int{1, 2, 9} {
		x, ty := wide(more)
		refused(t, "what is too great", x, ty, 0, api.ErrFull)
	}
	// It has a type, and its steps are too great.
	grown, e := Number(40)
	if e != api.OK {
		t.Fatalf("Number: error %d", e)
	}
	grown = sample.Applied(church(2), sample.Applied(church(2), grown))
	refused(t, "what becomes too great", grown, churchType(base(0)), api.MaxFuel, api.ErrFull)
	// Steps too many are told ahead of that.
	x, ty = wide(1)
	refused(t, "what is too great, and steps too many", sample.Applied(id(), x), ty, 0, api.ErrFuel)
	refused(t, "what is too great behind a step", sample.Applied(id(), x), ty, 1, api.ErrFull)
}

func TestR2Number(t *testing.T) {
	for _, n := range []int{0, 1, 2, 3, 17, api.MaxList - 1, api.MaxList} {
		x, e := Number(n)
		if textOf(x) != textOf(church(n)) || e != api.OK {
			t.Errorf("Number of %d: %s, error %d", n, textOf(x), e)
		}
		if m, e := Value(x, 0); m != n || e != api.OK {
			t.Errorf("Value of it: %d, error %d, want %d", m, e, n)
		}
	}
	if x, _ := Number(2); textOf(x) != textOf(parsed(t, `\x0.\x1.x0 (x0 x1)`)) {
		t.Errorf("Number of 2: %s", textOf(x))
	}
	for _, n := range []int{-1, api.MaxList + 1, -1 << 63, 1<<63 - 1} {
		if x, e := Number(n); !sample.IsNoLam(x) || e != api.ErrPlace {
			t.Errorf("Number of %d: %s, error %d", n, textOf(x), e)
		}
	}
}

func TestR2Value(t *testing.T) {
	for text, want := range map[string]int{
		`\x.x`:                              1,
		`\x.\y.y`:                           0,
		`\x.\y.x y`:                         1,
		`\x.\y.x (x (x y))`:                 3,
		`(\x.x) (\x.\y.x (x y))`:            2,
		`(\x.x) (\x.x)`:                     1,
		`\x.(\y.y) x`:                       1,
		`\x.\y.(\z.x (x z)) (x y)`:          3,
		`(\n.\f.\x.f (n f x)) (\f.\x.f x)`:  2,
		`(\f.\x.f (f x)) (\f.\x.f (f x))`:   4,
		`(\f.\x.f (f x)) (\f.f)`:            1,
		`(\f.\x.x) (\f.\x.f (f (f (f x))))`: 1,
		// What has no type, or has constants in it, may come to a numeral.
		`(\x.\y.y) ((\x.x x) (\x.x x))`:     1,
		`(\x.x x) (\x.x)`:                   1,
		`\f.(\x.\y.y) c1`:                   0,
		`\f.\x.(\y.f) c1 ((\y.x) (\y.y f))`: 1,
	} {
		if n, e := Value(parsed(t, text), 20); n != want || e != api.OK {
			t.Errorf("Value of %s: %d, error %d, want %d", text, n, e, want)
		}
	}
}

func TestR2ValueOfAnyNumber(t *testing.T) {
	for n := range (api.MaxNodes-3)/2 + 1 {
		if m, e := Value(church(n), 0); m != n || e != api.OK {
			t.Errorf("Value of %d: %d, error %d", n, m, e)
		}
	}
	for n, want := range map[int]int{5: 125, 9: 729} {
		if m, e := Value(sample.Applied(church(3), church(n)), api.MaxFuel); m != want || e != api.OK {
			t.Errorf("Value of %d times %d times %d: %d, error %d", n, n, n, m, e)
		}
	}
}

func TestR2ValueOfNoNumeral(t *testing.T) {
	for _, text := range []string{
		`c0`,
		`c0 c1`,
		`\x.c0`,
		`\x.x x`,
		`\x.x c0`,
		`\x.\y.x`,
		`\x.\y.y x`,
		`\x.\y.y y`,
		`\x.\y.x x`,
		`\x.\y.x y y`,
		`\x.\y.x x y`,
		`\x.\y.x (y x)`,
		`\x.\y.x (x x)`,
		`\x.\y.x (x (y y))`,
		`\x.\y.x (x c0)`,
		`\x.\y.c0 (x y)`,
		`\x.\y.c0`,
		`\x.\y.\z.z`,
		`\x.\y.\z.x y z`,
		`\x.\y.x (\z.z)`,
		`\x.\y.x (\z.x z)`,
		`\x.\y.x (x (\z.y z))`,
		`(\x.x) (\x.\y.x)`,
		`(\x.x) c1`,
	} {
		if n, e := Value(parsed(t, text), 9); n != 0 || e != api.ErrForm {
			t.Errorf("Value of %s: %d, error %d", text, n, e)
		}
	}
}

func TestR2ValueRefuses(t *testing.T) {
	for _, w := range sample.WrongLams() {
		for _, most := range []int{9, -1, api.MaxFuel + 1} {
			if n, e := Value(w.Lam, most); n != 0 || e != w.Errno {
				t.Errorf("Value of %s: %d, error %d, want %d", w.What, n, e, w.Errno)
			}
		}
	}
	for _, most := range []int{-1, api.MaxFuel + 1, -1 << 63, 1<<63 - 1} {
		for _, x := range []api.Lam{church(2), konst(0)} {
			if n, e := Value(x, most); n != 0 || e != api.ErrLimit {
				t.Errorf("Value, at most %d: %d, error %d", most, n, e)
			}
		}
	}
	if n, e := Value(sample.Applied(self(), self()), api.MaxFuel); n != 0 || e != api.ErrFuel {
		t.Errorf("Value of what has no end: %d, error %d", n, e)
	}
	if n, e := Value(sample.Applied(church(3), church(10)), api.MaxFuel); n != 0 || e != api.ErrFull {
		t.Errorf("Value of 1000: %d, error %d", n, e)
	}
}

func TestR2Fuel(t *testing.T) {
	x := sample.Applied(church(2), church(2))
	for most := range 10 {
		n, e := Value(x, most)
		if most < 6 && (n != 0 || e != api.ErrFuel) || most >= 6 && (n != 4 || e != api.OK) {
			t.Errorf("at most %d: %d, error %d", most, n, e)
		}
	}
}

func TestZ1EndsSoon(t *testing.T) {
	x, ty := wide(20)
	Long(x, ty, api.MaxFuel)
	// Much is to be made long, at a type with as many arrows as may be.
	great := sample.TypeRow(49, base(0))
	Long(id(), arrow(great, great), api.MaxFuel)
	deep := base(0)
	for range 48 {
		deep = arrow(deep, base(0))
	}
	Long(id(), arrow(deep, deep), api.MaxFuel)
	Value(sample.Row(50, church(2)), api.MaxFuel)
	Value(sample.Applied(church(9), church(9), church(9)), api.MaxFuel)
}

func TestZ2FreshMemory(t *testing.T) {
	f := arrow(base(0), base(0))
	x, ty := parsed(t, `\x.\f.f x x`), arrows(base(0), f, arrows(base(0), f, f))
	was, wasType := textOf(x), sample.TypeText(ty)
	want := parsed(t, `\x.\f.f (\y.x y) (\y.x y)`)
	y, e := Long(x, ty, 0)
	if textOf(y) != textOf(want) || e != api.OK {
		t.Fatalf("Long: %s, error %d", textOf(y), e)
	}
	// What is there twice shares no memory.
	row := y.Subs[0].Subs[0]
	sample.SpoilLam(row.Subs[1])
	if textOf(row.Subs[0]) != textOf(want.Subs[0].Subs[0].Subs[0]) {
		t.Errorf("Long: what is there twice shares memory: %s", textOf(row))
	}
	sample.SpoilLam(y)
	// What is long already is no less the caller's.
	z, _ := Long(want, ty, 0)
	wanted := textOf(want)
	sample.SpoilLam(z)
	if textOf(want) != wanted || textOf(x) != was || sample.TypeText(ty) != wasType {
		t.Error("Long: memory is shared")
	}
	if ok, e := Alike(x, want, ty, 0); !ok || e != api.OK || textOf(x) != was || textOf(want) != wanted {
		t.Errorf("Alike: %v, error %d, or written into", ok, e)
	}
	a, _ := Number(3)
	b, _ := Number(3)
	sample.SpoilLam(a)
	if textOf(b) != textOf(church(3)) {
		t.Error("Number: memory is shared")
	}
	if n, e := Value(b, 0); n != 3 || e != api.OK || textOf(b) != textOf(church(3)) {
		t.Errorf("Value: %d, error %d, or written into", n, e)
	}
}

func TestZ2NothingBeyond(t *testing.T) {
	types := []api.Type{base(0), base(0), base(-1)}
	lams := []api.Lam{sample.Bound(0), {}}
	x := api.Lam{Kind: api.Lambda, Subs: lams[:1]}
	if y, e := Long(x, api.Type{Subs: types[:2]}, 0); textOf(y) != textOf(id()) || e != api.OK {
		t.Errorf("Long: %s, error %d", textOf(y), e)
	}
	if n, e := Value(x, 0); n != 1 || e != api.OK {
		t.Errorf("Value: %d, error %d", n, e)
	}
	if textOf(lams[1]) != "0:0" || types[2].Base != -1 {
		t.Error("written into what was handed in")
	}
}
