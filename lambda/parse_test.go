package lambda

import (
	"slices"
	"strings"
	"testing"

	"metaprune/api"
	"metaprune/sample"
)

func parsed(t *testing.T, text string, free ...string) api.Lam {
	t.Helper()
	x, e := Parse(text, free)
	if e != api.OK {
		t.Fatalf("Parse(%q): error %d", text, e)
	}
	return x
}

func TestM4Parse(t *testing.T) {
	id := binder(bound(0))
	for _, c := range []struct {
		text, free string
		want       api.Lam
	}{
		{"c0", "", konst(0)},
		{"c39", "", konst(39)},
		{"y", "y z", bound(1)},
		{"z", "y z", bound(0)},
		{`\x0.x0`, "", id},
		{`\y.y`, "y", id},
		{`\y.z`, "y z", binder(bound(1))},
		{`\y.\y.y`, "", nested(2, bound(0))},
		{`\y.(\y.y) y`, "", binder(applied(id, bound(0)))},
		{`\y.\z.y (z y)`, "", nested(2, applied(bound(1), applied(bound(0), bound(1))))},
		{`(\y.y) y`, "y", applied(id, bound(0))},
		{`\c1.c1`, "", id},
		{`\c1.c2`, "", binder(konst(2))},
		{`\c.c`, "", id},
		{`(\c1.c1) c1`, "", applied(id, konst(1))},
		{`\x.x`, "", id},
		{`\X.X`, "", id},
		{`\abcdefg8.abcdefg8`, "", id},
		{"c1 c2 c3", "", applied(konst(1), konst(2), konst(3))},
		{"c1 (c2 c3)", "", applied(konst(1), applied(konst(2), konst(3)))},
		{"(c1 c2) c3", "", applied(konst(1), konst(2), konst(3))},
		{"((c1))", "", konst(1)},
		{`(\y.y)`, "", id},
		{`c1 (\y.y c2)`, "", applied(konst(1), binder(applied(bound(0), konst(2))))},
		{`\y.y c1 c2`, "", binder(applied(bound(0), konst(1), konst(2)))},
		{`\y.(\z.z)`, "", binder(id)},
		{`\y.(\z.z) w y`, "w", binder(applied(id, bound(1), bound(0)))},
		{`(\y.w) w`, "w", applied(binder(bound(1)), bound(0))},
	} {
		x, e := Parse(c.text, strings.Fields(c.free))
		if textOf(x) != textOf(c.want) || e != api.OK {
			t.Errorf("Parse(%q): %s, error %d, want %s", c.text, textOf(x), e, textOf(c.want))
		}
	}
}

func TestM4ParseRefuses(t *testing.T) {
	for _, c := range []struct {
		text string
		e    api.Errno
	}{
		{"", api.ErrShort},
		{" ", api.ErrWord},
		{" c1", api.ErrWord},
		{"c1 ", api.ErrShort},
		{"c1  c1", api.ErrWord},
		{"c1\tc1", api.ErrWord},
		{"c1\n", api.ErrWord},
		{")", api.ErrWord},
		{"(", api.ErrShort},
		{"()", api.ErrWord},
		{"(c1", api.ErrShort},
		{"(c1 ", api.ErrShort},
		{"(c1.", api.ErrWord},
		{"(c1\\", api.ErrWord},
		{"(c1(", api.ErrWord},
		{"c1)", api.ErrWord},
		{"c1(c1)", api.ErrWord},
		{"(c1)c1", api.ErrWord},
		{"c1.c1", api.ErrWord},
		{".", api.ErrWord},
		{"\\", api.ErrShort},
		{"\\.", api.ErrWord},
		{"\\ y.y", api.ErrWord},
		{"\\(y).y", api.ErrWord},
		{"\\\\y.y", api.ErrWord},
		{"\\y", api.ErrShort},
		{"\\y y", api.ErrWord},
		{"\\y)", api.ErrWord},
		{"\\y.", api.ErrShort},
		{"\\y. y", api.ErrWord},
		{"\\y.)", api.ErrWord},
		{"\\y..y", api.ErrWord},
		{"\\y.y\\", api.ErrWord},
		{"c1 \\y.y", api.ErrWord},
		{"\\9.c1", api.ErrName},
		{"\\9", api.ErrName},
		{"\\abcdefghi.c1", api.ErrName},
		{"9", api.ErrName},
		{"abcdefghi", api.ErrName},
		{"abcdefghi(", api.ErrName},
		{"é", api.ErrWord},
		{"c1é", api.ErrWord},
		{"#0", api.ErrWord},
		{"q", api.ErrOpen},
		{"q)", api.ErrOpen},
		{"(q", api.ErrOpen},
		{"x0", api.ErrOpen},
		{"\\y.z", api.ErrOpen},
		{"(\\y.y) y", api.ErrOpen},
		{"(\\y.y)y", api.ErrWord},
		{"c", api.ErrOpen},
		{"c00", api.ErrOpen},
		{"c01", api.ErrOpen},
		{"c40", api.ErrOpen},
		{"c400", api.ErrOpen},
		{"c9999999", api.ErrOpen},
		{"c1a", api.ErrOpen},
		{"ca", api.ErrOpen},
		{"C1", api.ErrOpen},
		{"d1", api.ErrOpen},
		{"c99999999", api.ErrName},
		{"q 9", api.ErrOpen},
		{"9 q", api.ErrName},
	} {
		x, e := Parse(c.text, []string{"v", "w"})
		if !isNone(x) || e != c.e {
			t.Errorf("Parse(%q): %v, error %d, want %d", c.text, x, e, c.e)
		}
	}
}

// pieces is so many constants, one behind the other.
func pieces(many int) string { return strings.TrimSuffix(strings.Repeat("c0 ", many), " ") }

func TestM4ParseLimits(t *testing.T) {
	most := pieces(100) // MaxNodes - 1 knots
	binders := strings.Repeat("\\y.", api.MaxNodes)
	for what, c := range map[string]struct {
		text string
		e    api.Errno
	}{
		"MaxNodes, a row":                           {"\\y." + most, api.OK},
		"MaxNodes, high":                            {binders[3:] + "y", api.OK},
		"MaxNodes + 1, high: a name":                {binders + "y", api.ErrLimit},
		"MaxNodes + 1: a wrong name":                {binders + "9", api.ErrName},
		"MaxNodes + 1: no name, at the end":         {binders, api.ErrShort},
		"MaxNodes + 1: no name":                     {binders + ")", api.ErrWord},
		"MaxNodes + 1: a name of nothing":           {binders + "q", api.ErrLimit},
		"MaxNodes + 1: a binder":                    {binders + "\\y.y", api.ErrLimit},
		"MaxNodes + 1: a binder's sign alone":       {binders + "\\", api.ErrLimit},
		"MaxNodes + 1: a binder of a wrong name":    {binders + "\\9", api.ErrLimit},
		"MaxNodes + 1: a blank":                     {"\\y." + most + " ", api.ErrLimit},
		"MaxNodes + 1: a blank ahead of what isn't": {"\\y." + most + "  9", api.ErrLimit},
		"MaxNodes: a blank at the end":              {most + " ", api.ErrShort},
		"MaxNodes + 1: a name behind a blank":       {most + " c0", api.ErrLimit},
		"brackets are none":                         {strings.Repeat("(", 500) + "\\y." + most + strings.Repeat(")", 500), api.OK},
		"something left behind MaxNodes":            {"\\y." + most + ")", api.ErrWord},
		"MaxText bytes, all brackets":               {strings.Repeat("(", api.MaxText), api.ErrShort},
		"MaxText bytes, in brackets":                {strings.Repeat("(", api.MaxText/2-1) + "c1" + strings.Repeat(")", api.MaxText/2-1), api.OK},
		"MaxText + 1 bytes":                         {strings.Repeat("(", api.MaxText/2-1) + "c12" + strings.Repeat(")", api.MaxText/2-1), api.ErrLimit},
		"MaxText + 1 bytes, the first one wrong":    {strings.Repeat(")", api.MaxText+1), api.ErrLimit},
		"far more bytes":                            {strings.Repeat("\\y.", 1<<20), api.ErrLimit},
	} {
		x, e := Parse(c.text, nil)
		if e != c.e || e != api.OK && !isNone(x) {
			t.Errorf("%s: error %d, want %d", what, e, c.e)
		}
	}
}

func TestM4ParseOfMaxListNames(t *testing.T) {
	free := numbered(api.MaxList)
	for i, name := range free {
		if x := parsed(t, `\y.`+name, free...); textOf(x) != textOf(binder(bound(api.MaxList-i))) {
			t.Errorf("%s of MaxList: %s", name, textOf(x))
		}
	}
}

func drawn(d *sample.Die) (api.Lam, []string) {
	free := []string{"y", "z", "w", "Q"}[:d.Roll(5)]
	for {
		if x := d.Lam(7, len(free), 3); sample.LamCount(x) <= api.MaxNodes {
			return x, free
		}
	}
}

func TestM4ReadsWhatTextWrites(t *testing.T) {
	d := sample.Die(3)
	for range 2000 {
		x, free := drawn(&d)
		s, e := Text(x, free)
		if e != api.OK {
			t.Fatalf("Text of %s: error %d", textOf(x), e)
		}
		y, e := Parse(s, free)
		if textOf(y) != textOf(x) || e != api.OK {
			t.Fatalf("Parse(%q): %s, error %d, want %s", s, textOf(y), e, textOf(x))
		}
	}
}

// writeAs writes a term with names of its own for binders, and with more brackets
// than are needed.
func writeAs(d *sample.Die, n sample.Named) string {
	var s string
	switch len(n.Subs) {
	case 0:
		return strings.Replace(n.Name, "#4", "c", 1)
	case 1:
		s = "\\" + n.Name + "." + writeAs(d, n.Subs[0])
	case 2:
		s = writeAs(d, n.Subs[0]) + " " + writeAs(d, n.Subs[1])
	}
	more := d.Roll(3) + 1
	return strings.Repeat("(", more) + s + strings.Repeat(")", more)
}

func TestM4NamesDoNotMatter(t *testing.T) {
	d := sample.Die(5)
	for range 2000 {
		x, free := drawn(&d)
		count := 0
		s := writeAs(&d, sample.WithNames(x, free, &count))
		y, e := Parse(s, free)
		if textOf(y) != textOf(x) || e != api.OK {
			t.Fatalf("Parse(%q): %s, error %d, want %s", s, textOf(y), e, textOf(x))
		}
	}
}

// Whatever text is read, what comes out may be and is written so that it is read again.
func TestM4WhateverText(t *testing.T) {
	d := sample.Die(11)
	signs := []string{"(", ")", " ", ".", "\\", "c1", "y", "z", "q", "9", "\\y.", "\\q.", "é", ""}
	read := 0
	for range 60000 {
		var b strings.Builder
		for range d.Roll(9) + 1 {
			b.WriteString(signs[d.Roll(len(signs))])
		}
		free := []string{"y", "z"}[:d.Roll(3)]
		x, e := Parse(b.String(), free)
		if e != api.OK {
			if !isNone(x) || !slices.Contains([]api.Errno{api.ErrShort, api.ErrWord, api.ErrName, api.ErrOpen}, e) {
				t.Fatalf("Parse(%q): %v, error %d", b.String(), x, e)
			}
			continue
		}
		read++
		sameErr(t, "Check of "+b.String(), Check(x, len(free)), api.OK)
		s, _ := Text(x, free)
		if y := parsed(t, s, free...); textOf(y) != textOf(x) {
			t.Fatalf("Parse(%q): %s, want %s", s, textOf(y), textOf(x))
		}
	}
	if read < 1000 {
		t.Errorf("only %d texts were read", read)
	}
}
