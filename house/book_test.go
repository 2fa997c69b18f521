package house

import (
	"slices"
	"strconv"
	"strings"
	"testing"

	"metaprune/api"
	"metaprune/lambda"
	"metaprune/sample"
)

// The greatest that a line takes, and one beyond.
func TestQ1Limits(t *testing.T) {
	is(t, nil, "size "+broad(api.MaxNodes-1, "a"), "200")
	is(t, nil, "size "+broad(api.MaxNodes, "a"), errorOf(api.ErrLimit))
	is(t, nil, "size abcdefgh", "1")
	is(t, nil, "size abcdefghi", errorOf(api.ErrName))
	is(t, nil, "lam "+strings.Repeat(`\y.`, api.MaxNodes-1)+"c39", lamOf(api.MaxNodes-1)+"c39")
	is(t, nil, "lam "+strings.Repeat(`\y.`, api.MaxNodes)+"c39", errorOf(api.ErrLimit))
	for _, c := range []string{"rule aN b", "eq aN b"} {
		for n := range api.MaxList + 1 {
			want := "ok"
			if n == api.MaxList {
				want = errorOf(api.ErrLimit)
			}
			is(t, many(n, c), strings.ReplaceAll(c, "N", "99"), want)
		}
		is(t, append(many(api.MaxList, c), "clear"), strings.ReplaceAll(c, "N", "99"), "ok")
	}
	row := strings.Fields(strings.Join(many(api.MaxList+1, "aN"), " "))
	is(t, nil, line("row", row[:api.MaxList]), "ok")
	is(t, nil, line("row", row), errorOf(api.ErrLimit))
	is(t, []string{line("row", row[:api.MaxList])}, "path a39 a38", "yes")
	is(t, []string{line("row", row[:api.MaxList])}, "path a38 a39", "no")
}

func lamOf(binders int) string {
	s := ""
	for i := range binders {
		s += `\x` + strconv.Itoa(i) + "."
	}
	return s
}

// drawn is a line of words that look drawn: most fit, some don't.
func drawn(d *sample.Die, firsts []string) string {
	first := firsts[d.Roll(len(firsts))]
	words := plain(asks()[first])
	for i, w := range words {
		switch w {
		case "a":
			words[i] = sample.Text(d.Term(2, "a", "b", "X", "Y"))
		case "9":
			words[i] = digits(d.Roll(70))
		case `\y.y`:
			x := d.Lam(3, 0, 2)
			words[i], _ = lambda.Text(x, nil)
		}
	}
	if first == "row" {
		words = []string{"a", "b", "f", "g", "h"}[d.Roll(5):]
	}
	if d.Roll(12) == 0 {
		words = append(words, []string{"", "a", "(", "9"}[d.Roll(4)])
	}
	return line(first, words)
}

// Each line has an answer of one line, which hangs on it and those ahead alone.
func TestQ1LineByLine(t *testing.T) {
	var firsts []string
	for first := range asks() {
		firsts = append(firsts, first)
	}
	slices.Sort(firsts)
	d := sample.Die(20)
	for range 300 {
		var l []string
		for range 1 + d.Roll(20) {
			l = append(l, drawn(&d, firsts))
		}
		whole := session(l)
		if whole != session(l) || strings.Count(whole, "\n") != len(l) {
			t.Fatalf("%q: %q", l, whole)
		}
		for n := range len(l) - 1 {
			if part := session(l[:n+1]); !strings.HasPrefix(whole, part) || strings.Count(part, "\n") != n+1 {
				t.Fatalf("%q: %q, the first %d lines alone: %q", l, whole, n+1, part)
			}
		}
	}
}

// No session knows of another one, though they go on at the same time.
func TestQ1Sessions(t *testing.T) {
	asked, told := lines(document)
	out := make(chan string)
	for range 8 {
		go func() { out <- Session(asked) }()
	}
	for range 8 {
		sameLines(t, "one of many sessions", asked, <-out, told)
	}
}
