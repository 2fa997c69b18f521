package binders

import (
	"testing"

	"metaprune/api"
	"metaprune/sample"
)

var (
	bound   = sample.Bound
	konst   = sample.Const
	meta    = sample.Meta
	binder  = sample.Binder
	applied = sample.Applied
	textOf  = sample.LamText
)

func TestCheckOfUnknowns(t *testing.T) {
	for _, c := range []struct {
		x     api.Lam
		metas int
		want  api.Errno
	}{
		{meta(0), 0, api.ErrOpen},
		{meta(0), 1, api.OK},
		{meta(3), 4, api.OK},
		{meta(4), 4, api.ErrOpen},
		{meta(-1), 4, api.ErrOpen},
		{binder(applied(meta(1), bound(0), meta(2))), 3, api.OK},
		{binder(applied(meta(1), bound(0), meta(2))), 2, api.ErrOpen},
	} {
		if e := Check(c.x, 0, c.metas); e != c.want {
			t.Errorf("Check of %s, %d unknowns: error %d, want %d", textOf(c.x), c.metas, e, c.want)
		}
	}
}

func TestCount(t *testing.T) {
	for _, c := range []struct {
		x          api.Lam
		most, want int
	}{
		{konst(0), 9, 1},
		{konst(0), 0, 1},
		{sample.Row(50, konst(0)), 200, 99},
		{sample.Row(50, konst(0)), 99, 99},
		{sample.Row(50, konst(0)), 98, 99},
		{sample.EndlessLam(), 1000, 1001},
	} {
		if n := Count(c.x, c.most); n != c.want {
			t.Errorf("Count, at most %d: %d, want %d", c.most, n, c.want)
		}
	}
}

func TestSame(t *testing.T) {
	l := []api.Lam{
		bound(0), bound(1), konst(0), meta(0), binder(bound(0)), binder(bound(1)), binder(binder(bound(0))),
		applied(bound(0), bound(0)), applied(bound(0), bound(1)), applied(bound(1), bound(0)), {}, {Kind: api.Apply},
	}
	for i := range l {
		for j := range l {
			if Same(l[i], l[j]) != (i == j) {
				t.Errorf("Same of %s and %s: %v", textOf(l[i]), textOf(l[j]), i != j)
			}
		}
	}
	if !Same(binder(bound(0)), binder(api.Lam{Kind: api.Bound, Subs: []api.Lam{}})) {
		t.Error("an empty list below is none")
	}
}

func TestHolds(t *testing.T) {
	x := applied(bound(1), binder(applied(bound(0), bound(4))), konst(2), meta(5))
	for index, want := range []bool{false, true, false, true, false, false} {
		if ok := Holds(x, index); ok != want {
			t.Errorf("Holds of %d: %v", index, ok)
		}
	}
}

func TestRaise(t *testing.T) {
	x := applied(bound(1), binder(applied(bound(0), bound(4))), konst(2), meta(5))
	for by, want := range map[int]api.Lam{
		0:  x,
		3:  applied(bound(4), binder(applied(bound(0), bound(7))), konst(2), meta(5)),
		-1: applied(bound(0), binder(applied(bound(0), bound(3))), konst(2), meta(5)),
	} {
		y := Raise(x, by)
		if textOf(y) != textOf(want) {
			t.Errorf("Raise by %d: %s, want %s", by, textOf(y), textOf(want))
		}
		sample.SpoilLam(y)
		if textOf(x) != "3:0(3:0(3:0(1:1)(2:0(3:0(1:0)(1:4))))(4:2))(5:5)" {
			t.Fatalf("Raise by %d: memory is shared", by)
		}
	}
}

func TestPutOfMost(t *testing.T) {
	body, x := applied(bound(0), binder(applied(bound(1), bound(2)))), applied(bound(0), konst(1))
	want := applied(x, binder(applied(applied(bound(1), konst(1)), bound(1))))
	for most := range 12 {
		y, ok := Put(body, x, most)
		if ok != (most >= 10) || ok && textOf(y) != textOf(want) || !ok && !sample.IsNoLam(y) {
			t.Errorf("Put, at most %d: %s, %v", most, textOf(y), ok)
		}
	}
}

// Unknowns stay where they are, whatever is worked out around them.
func TestRunOfUnknowns(t *testing.T) {
	x := applied(binder(applied(meta(1), bound(0), bound(0))), meta(2))
	y, n, e := Run(x, Outer, 9)
	if textOf(y) != textOf(applied(meta(1), meta(2), meta(2))) || n != 1 || e != api.OK {
		t.Errorf("Run: %s, %d, error %d", textOf(y), n, e)
	}
	if y := Eta(binder(applied(meta(1), bound(0)))); textOf(y) != textOf(meta(1)) {
		t.Errorf("Eta: %s", textOf(y))
	}
}
