package house

import "metaprune/api"

// command: what stands behind the first word of a line, and what the line does. That
// is told by a letter a word, as the document's table has them (V: any word), but for
// L (all words left, one at least) and a dot (all words left, none, too).
type command struct {
	asks string
	do   func(*book, given) (string, api.Errno)
}

// table has the commands, by the first words of their lines.
var table = commands()

func commands() map[string]command {
	return map[string]command{
		"size":     {"T", (*book).size},
		"vars":     {"T", (*book).vars},
		"unify":    {"TU", (*book).unify},
		"match":    {"TU", (*book).match},
		"general":  {"TU", (*book).general},
		"row":      {".", (*book).putRow},
		"path":     {"TU", (*book).path},
		"weight":   {"TU", (*book).weight},
		"rule":     {"TU", (*book).addRule},
		"inner":    {"NT", (*book).inner},
		"outer":    {"NT", (*book).outer},
		"reach":    {"T", (*book).reach},
		"pairs":    {"", (*book).pairs},
		"join":     {"N", (*book).join},
		"eq":       {"TU", (*book).addEquation},
		"complete": {"N", (*book).complete},
		"same":     {"TU", (*book).same},
		"classes":  {"", (*book).classes},
		"clear":    {"", (*book).clear},
		"run":      {"NT", (*book).run},
		"bracket":  {"VT", (*book).bracket},
		"lam":      {"L", (*book).lam},
		"normal":   {"NL", (*book).normal},
		"eta":      {"L", (*book).eta},
		"type":     {"L", (*book).principal},
		"comb":     {"L", (*book).comb},
	}
}
