package house

import (
	"slices"
	"strings"
	"testing"

	"metaprune/api"
)

// asks has the document's table: the first words, and what stands behind each.
func asks() map[string]string {
	all := map[string]string{}
	for first, l := range map[string]string{
		"T":  "size vars reach",
		"TU": "unify match general path weight rule eq same",
		"..": "row",
		"NT": "inner outer run",
		"N":  "join complete",
		"":   "pairs classes clear",
		"VT": "bracket",
		"L":  "lam eta type comb",
		"NL": "normal",
	} {
		for _, word := range strings.Fields(l) {
			all[word] = first
		}
	}
	return all
}

// plain are words that fit what is asked for.
func plain(asked string) []string {
	l := []string{}
	for _, a := range asked {
		switch a {
		case 'T', 'U':
			l = append(l, "a")
		case 'V':
			l = append(l, "X")
		case 'N':
			l = append(l, "9")
		case 'L':
			l = append(l, `\y.y`)
		}
	}
	return l
}

// line is a first word, with others behind it.
func line(first string, words []string) string {
	return strings.Join(append([]string{first}, words...), " ")
}

func TestQ1AllFirstWords(t *testing.T) {
	if len(asks()) != len(commands()) {
		t.Errorf("%d first words, want %d", len(commands()), len(asks()))
	}
	for first, asked := range asks() {
		got := one(t, nil, line(first, plain(asked)))
		if got == "bad" || strings.HasPrefix(got, "error") {
			t.Errorf("%s %s: %q", first, asked, got)
		}
	}
}

// Words that are wrong must not be read where there are not as many as there should
// be: so `bad` is told ahead of every error.
func TestQ1HowManyWords(t *testing.T) {
	for first, asked := range asks() {
		words := plain(asked)
		for many := range 6 {
			wrong := slices.Repeat([]string{"("}, many)
			fine := many == len(words)
			if strings.HasSuffix(asked, "L") {
				fine = many >= len(words)
			}
			if asked == ".." {
				fine = true
			}
			got := one(t, nil, line(first, wrong))
			if (got != "bad") != fine {
				t.Errorf("%s with %d words behind it: %q", first, many, got)
			}
		}
	}
}

func TestQ1NoSuchLine(t *testing.T) {
	for _, word := range []string{
		"foo", "", "Size", "SIZE", "siz", "sizes", "size\t", "\tsize", "size\r", "equation", "equal", "=", "ok", "bad", "error", "T", "..", "size(a)", "\x00", "\xff", "é", "row\x00", "strict", "develop", "solve",
	} {
		for many := range 4 {
			is(t, nil, line(word, slices.Repeat([]string{"a"}, many)), "bad")
		}
	}
}

// Words are parted at each blank: one too many makes an empty word.
func TestQ1Blanks(t *testing.T) {
	for _, c := range [][2]string{
		{" ", "bad"}, {"  ", "bad"}, {" size a", "bad"}, {" pairs", "bad"}, {" clear", "bad"},
		{"pairs ", "bad"}, {"classes ", "bad"}, {"clear ", "bad"}, {"clear  ", "bad"},
		{"size a ", "bad"}, {"size  a", "bad"}, {"size  ", "bad"}, {"size ", errorOf(api.ErrShort)},
		{"unify a ", errorOf(api.ErrShort)}, {"unify  a", errorOf(api.ErrShort)}, {"unify a  b", "bad"}, {"unify a b ", "bad"},
		{"inner  9 a", "bad"}, {"inner 9 a ", "bad"}, {"inner 9 ", errorOf(api.ErrShort)}, {"inner  a", errorOf(api.ErrWord)},
		{"join ", errorOf(api.ErrWord)}, {"join 9 ", "bad"}, {"join  9", "bad"},
		{"row ", errorOf(api.ErrName)}, {"row a ", errorOf(api.ErrName)}, {"row  a", errorOf(api.ErrName)}, {"row a  b", errorOf(api.ErrName)},
		{"bracket  a", errorOf(api.ErrName)}, {"bracket X ", errorOf(api.ErrShort)}, {"bracket  X a", "bad"},
		{"lam ", errorOf(api.ErrShort)}, {"lam  c1", errorOf(api.ErrWord)}, {"lam c1 ", errorOf(api.ErrShort)}, {"lam c1  c2", errorOf(api.ErrWord)},
		{"normal 9", "bad"}, {"normal 9 ", errorOf(api.ErrShort)}, {"normal  c1", errorOf(api.ErrWord)}, {"normal  9 c1", errorOf(api.ErrWord)}, {"normal 9  c1", errorOf(api.ErrWord)},
		{"size\ta", "bad"}, {"unify a\tb", "bad"}, {"unify a\t b", errorOf(api.ErrWord)}, {"size a\r", errorOf(api.ErrWord)},
		{"lam c1\tc2", errorOf(api.ErrWord)}, {"size f(a, b)", "bad"}, {"path f(a, b)", errorOf(api.ErrShort)},
	} {
		is(t, nil, c[0], c[1])
	}
}

// A newline at the text's end begins no further line; any other one does.
func TestQ1Newlines(t *testing.T) {
	for _, c := range [][2]string{
		{"pairs", "=\n"},
		{"pairs\n", "=\n"},
		{"pairs\n\n", "=\nbad\n"},
		{"pairs\n\n\n", "=\nbad\nbad\n"},
		{"\npairs", "bad\n=\n"},
		{"pairs\npairs", "=\n=\n"},
		{"pairs\npairs\n", "=\n=\n"},
		{"pairs\n\npairs\n", "=\nbad\n=\n"},
		{"\n", "bad\n"},
		{"\n\n", "bad\nbad\n"},
		{"", "bad\n"},
		{"pairs\n ", "=\nbad\n"},
		{"pairs\r\npairs\r\n", "bad\nbad\n"},
	} {
		if got := Session(c[0]); got != c[1] {
			t.Errorf("%q: %q, want %q", c[0], got, c[1])
		}
	}
}

func TestQ1TooLong(t *testing.T) {
	for unit, many := range map[string]int{"\n": api.MaxText, " ": 1, "a": 1, "\xff": 1, "pairs\n": 667, "clear\n": 667} {
		text := strings.Repeat(unit, api.MaxText)[:api.MaxText]
		got := Session(text)
		if got == "too long\n" || strings.Count(got, "\n") != many {
			t.Errorf("MaxText bytes of %q: %d lines, %.60q", unit, strings.Count(got, "\n"), got)
		}
		for _, more := range []string{"\n", "a", text} {
			if got := Session(text + more); got != "too long\n" {
				t.Errorf("MaxText and %d bytes of %q: %.60q", len(more), unit, got)
			}
		}
	}
	full := "row " + strings.Repeat("a", api.MaxText-4)
	if got := Session(full); got != "error 1\n" {
		t.Errorf("one line of MaxText bytes: %q", got)
	}
	if got := Session(full + "\n"); got != "too long\n" {
		t.Errorf("such a line, and a newline: %q", got)
	}
}

// Of words that are no numbers nothing else is told; of numbers what the layer says.
func TestQ1Numbers(t *testing.T) {
	for _, word := range []string{
		"", "00", "01", "09", "000", "007", "010", "1000", "0400", "9999", "00000009", "-1", "-0", "+1", "+0", "1_0", "0x1", "0b1", "1e1", "1.0", "x", "9x", "x9", "X", "a", "９", "\x00", "9\t", "99999999999999999999",
	} {
		for _, c := range []string{"inner N a", "outer N a", "join N", "complete N", "run N a", "normal N c1", "inner N (", "normal N ("} {
			is(t, nil, strings.Replace(c, "N", word, 1), errorOf(api.ErrWord))
		}
	}
	for _, c := range []struct {
		line string
		most int
		e    api.Errno
	}{
		{"inner N a", api.MaxFuel, api.ErrPlace},
		{"outer N a", api.MaxFuel, api.ErrPlace},
		{"join N", api.MaxFuel, api.ErrPlace},
		{"complete N", api.MaxRounds, api.ErrPlace},
		{"run N a", api.MaxFuel, api.ErrPlace},
		{"normal N c1", api.MaxFuel, api.ErrLimit},
	} {
		for n := range 1000 {
			got := one(t, nil, strings.Replace(c.line, "N", digits(n), 1))
			if fine := !strings.HasPrefix(got, "error"); fine != (n <= c.most) || !fine && got != errorOf(c.e) {
				t.Errorf("%s, N %d: %q", c.line, n, got)
			}
		}
	}
}

// digits of a number below 1000.
func digits(n int) string {
	s := string([]byte{'0' + byte(n/100), '0' + byte(n/10%10), '0' + byte(n%10)})
	return strings.TrimLeft(s[:2], "0") + s[2:]
}

// A number tells how many steps there may be, in each of its lines.
func TestQ1NumbersCount(t *testing.T) {
	high := tower("h(", 120, "a", ")")
	for _, first := range []string{"inner", "outer"} {
		is(t, []string{"rule h(X) X"}, first+" 120 "+high, "120 a")
		is(t, []string{"rule h(X) X"}, first+" 119 "+high, errorOf(api.ErrFuel))
	}
	meet := []string{"rule h(X) X", "rule k(X) X", "rule k(h(h(X))) X"}
	is(t, meet, "join 2", "yes")
	is(t, meet, "join 1", errorOf(api.ErrFuel))
	is(t, []string{"rule h(h(X)) X"}, "join 0", "yes")
}
