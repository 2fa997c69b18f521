package pattern

import (
	"slices"
	"testing"

	"metaprune/api"
	"metaprune/sample"
)

func TestS3Put(t *testing.T) {
	for _, c := range []struct {
		x    string
		with []string
		most int
		want string
	}{
		{`c1`, nil, 0, `c1`},
		{`\a.a`, []string{`c0`}, 0, `\a.a`},
		{`m0`, []string{`c0`}, 0, `c0`},
		{`m1`, []string{`c0`, `m11`}, 0, `m11`},
		{`m0 m1`, []string{`m1`, `m0`}, 0, `m1 m0`},
		{`\a.m0 a`, []string{`c0`}, 0, `c0`},
		{`\a.m0 a`, []string{`\a.a c1`}, 1, `\a.a c1`},
		{`\a.m0 a`, []string{`m0`}, 0, `m0`},
		{`\a.\b.m0 a b`, []string{`\a.\b.m0 b`}, 2, `\a.m0`},
		{`\a.\b.m0 b a`, []string{`\a.\b.b (c1 a)`}, 2, `\a.\b.a (c1 b)`},
		{`\a.\b.c0 (m0 b) (\d.m0 d)`, []string{`\a.\b.a`}, 2, `\a.\b.c0 (\d.b) (\d.\e.d)`},
		{`\a.c0 (m0 a)`, []string{`\b.b`}, 1, `c0`},
		{`m0 m0`, []string{`\f.\x.f (f x)`}, 6, `\x.\y.x (x (x (x y)))`},
		{`(\a.a m0) m1`, []string{`c0`, `\b.b b`}, 2, `c0 c0`},
		{`m0 (m1 m1)`, []string{`\a.c0`, `\a.a a`}, 1, `c0`},
		{`\a.m3 a (m2 a)`, []string{`c0`, `c1`, `\a.\b.a`, `\a.\b.b a`}, 4, `\a.a`},
		{`\a.\b.a (m0 b)`, []string{`\a.a`}, 1, `\a.a`},
		{`\a.\b.\d.a b (m0 d)`, []string{`\a.\b.a b`}, 1, `\a.a`},
	} {
		with := parsedAll(t, c.with)
		x, want := parsed(t, c.x), textOf(parsed(t, c.want))
		for _, most := range []int{c.most, c.most + 1, api.MaxFuel} {
			if got, e := Put(x, with, most); textOf(got) != want || e != api.OK {
				t.Errorf("Put of %s, at most %d: %s, error %d, want %s", c.x, most, textOf(got), e, c.want)
			}
		}
		if c.most == 0 {
			continue
		}
		if got, e := Put(x, with, c.most-1); !isNone(got) || e != api.ErrFuel {
			t.Errorf("Put of %s, one step less: %s, error %d", c.x, textOf(got), e)
		}
	}
}

func TestS3PutRefuses(t *testing.T) {
	endless, open, none := sample.EndlessLam(), bound(0), api.Lam{}
	omega := []api.Lam{binder(applied(bound(0), bound(0)))}
	grows := []api.Lam{binder(applied(bound(0), bound(0), bound(0)))}
	great := row(100, konst(0))
	five := []api.Lam{konst(0), konst(0), konst(0), konst(0), konst(0)}
	for what, c := range map[string]struct {
		x    api.Lam
		with []api.Lam
		most int
		e    api.Errno
	}{
		"four":                                  {meta(3), five[:4], 0, api.OK},
		"five":                                  {meta(3), five, 0, api.ErrLimit},
		"five, and a wrong one":                 {none, []api.Lam{open, open, open, open, open}, -1, api.ErrLimit},
		"many":                                  {meta(3), make([]api.Lam, 1<<16), 0, api.ErrLimit},
		"the first of two wrong ones":           {none, []api.Lam{konst(0), open, none}, -1, api.ErrOpen},
		"the first of two wrong ones, turned":   {none, []api.Lam{konst(0), none, open}, -1, api.ErrForm},
		"an endless one, ahead of others":       {none, []api.Lam{endless, open}, -1, api.ErrLimit},
		"unknown MaxMetas - 1":                  {meta(0), []api.Lam{meta(api.MaxMetas - 1)}, 0, api.OK},
		"unknown MaxMetas":                      {meta(0), []api.Lam{meta(api.MaxMetas)}, 0, api.ErrOpen},
		"unknown -1":                            {meta(0), []api.Lam{meta(-1)}, 0, api.ErrOpen},
		"a wrong one, put nowhere":              {konst(0), []api.Lam{open}, 0, api.ErrOpen},
		"a wrong one, ahead of a wrong term":    {none, []api.Lam{open}, 0, api.ErrOpen},
		"a wrong term":                          {none, five[:1], 0, api.ErrForm},
		"a term bound from outside":             {open, five[:1], 0, api.ErrOpen},
		"an unknown of none":                    {meta(0), nil, 0, api.ErrOpen},
		"an unknown beyond":                     {binder(meta(2)), five[:2], 0, api.ErrOpen},
		"a term's unknown -1":                   {binder(meta(-1)), five[:2], 0, api.ErrOpen},
		"an endless term":                       {endless, five[:1], 0, api.ErrLimit},
		"a wrong term, ahead of most":           {none, five[:1], -1, api.ErrForm},
		"most -1":                               {meta(0), five[:1], -1, api.ErrPlace},
		"most the least of all":                 {meta(0), five[:1], -1 << 63, api.ErrPlace},
		"most MaxFuel + 1":                      {meta(0), five[:1], api.MaxFuel + 1, api.ErrPlace},
		"most MaxFuel":                          {meta(0), five[:1], api.MaxFuel, api.OK},
		"most, ahead of too great":              {row(100, meta(0)), []api.Lam{great}, api.MaxFuel + 1, api.ErrPlace},
		"MaxNodes, both":                        {meta(0), []api.Lam{nested(199, konst(0))}, 0, api.OK},
		"MaxNodes + 1":                          {meta(0), []api.Lam{nested(200, konst(0))}, 0, api.ErrLimit},
		"MaxNodes + 1, the term":                {nested(200, meta(0)), five[:1], 0, api.ErrLimit},
		"more than MaxNodes together":           {nested(199, meta(0)), []api.Lam{nested(199, konst(0))}, 0, api.OK},
		"far more than MaxGrown":                {row(100, meta(0)), []api.Lam{great}, 0, api.ErrFull},
		"too great, ahead of too many steps":    {applied(binder(bound(0)), row(99, meta(0))), []api.Lam{great}, 0, api.ErrFull},
		"too great, though one step drops it":   {applied(binder(konst(0)), row(99, meta(0))), []api.Lam{great}, 9, api.ErrFull},
		"a step to do, and none may be done":    {applied(meta(0), meta(0)), omega, 0, api.ErrFuel},
		"no end":                                {applied(meta(0), meta(0)), omega, api.MaxFuel, api.ErrFuel},
		"it grows, few steps":                   {applied(meta(0), meta(0)), grows, 20, api.ErrFuel},
		"it grows, more steps":                  {applied(meta(0), meta(0)), grows, api.MaxFuel, api.ErrFull},
		"unknowns are no matter, where no step": {applied(konst(0), meta(0)), []api.Lam{applied(meta(7), meta(8))}, 0, api.OK},
	} {
		got, e := Put(c.x, c.with, c.most)
		if e != c.e || e != api.OK && !isNone(got) {
			t.Errorf("%s: %d knots, error %d, want %d", what, sample.LamCount(got), e, c.e)
		}
	}
}

// What is put together is counted ahead of all steps, up to MaxGrown, though a term
// that is given may not have as many.
func TestS3PutOfMaxGrown(t *testing.T) {
	for _, c := range []struct{ unknowns, each, binders int }{
		{10, 197, 18}, {10, 197, 19}, {10, 197, 20}, // MaxGrown - 1, MaxGrown, MaxGrown + 1
		{66, 29, 18}, {66, 29, 19}, {66, 29, 20},
	} {
		x := nested(c.binders, applied(konst(0), slices.Repeat([]api.Lam{meta(0)}, c.unknowns)...))
		got, e := Put(x, []api.Lam{row(c.each/2+1, konst(0))}, 0)
		count, want := c.unknowns*(c.each+1)+1+c.binders, api.OK
		if count > api.MaxGrown {
			count, want = 1, api.ErrFull
		}
		if e != want || sample.LamCount(got) != count {
			t.Errorf("%d binders: %d knots, error %d, want %d, error %d", c.binders, sample.LamCount(got), e, count, want)
		}
	}
}
