package tests

import (
	"slices"
	"strings"
)

// The document's words about the old tongue, as they stand there: the tests hold
// the program against these. They go through the items of a play as a tree, and
// lean on the slow readings of the forms and of who is known where.

const newOrder = "given join hidden hget hput take for let"

// hasPairsWithin asks for a fn that has a (NAME SUM), at whatever depth.
func hasPairsWithin(n tree) bool {
	return n.head() == "fn" && hasPairs(n) || slices.ContainsFunc(n.within, hasPairsWithin)
}

func newSlowly(l []string) []string {
	var out []string
	if !scopeSlowly(l).scoped {
		return out
	}
	play := playTree(l)
	for _, word := range strings.Fields(newOrder) {
		if word == "given" && hasPairsWithin(play) || word != "given" && headsIn(play, word) > 0 {
			out = append(out, word)
		}
	}
	return out
}

func varsSlowly(l []string) []string {
	if !playSlowly(l) {
		return nil
	}
	deeds := blockOf(playTree(l))
	if len(deeds) == 0 || deeds[0].head() != "vars" {
		return nil
	}
	return signsIn(deeds[0].within[1:])
}

// An oldAnswers is what the three functions of the chapter answer of one list.
type oldAnswers struct {
	new  []string
	old  bool
	vars []string
}

func oldSlowly(l []string) oldAnswers {
	isNew := newSlowly(l)
	return oldAnswers{isNew, scopeSlowly(l).scoped && len(isNew) == 0, varsSlowly(l)}
}

// A newDeed is a deed with one new word, as it is told; an hget and an hput need
// a hidden beside them.
type newDeed struct{ word, page string }

func newDeeds() []newDeed {
	return []newDeed{
		{"given", "(run (fn ((g 1))))"}, {"join", "(say (join))"}, {"hidden", "(hidden p)"}, {"hget", "(run (hget p 1))"}, {"hput", "(hput p 1 2)"},
		{"take", "(take (t) 1)"}, {"for", "(for i 0 1 (do))"}, {"let", "(let a 1)"},
	}
}

// alone is the deed with what it needs beside it to be Scoped, and what is new
// in that.
func (d newDeed) alone() (string, string) {
	if d.word == "hget" || d.word == "hput" {
		return "(hidden p) " + d.page, "hidden " + d.word
	}
	return d.page, d.word
}

// An around is a surrounding in which HERE are deeds of a block, and what is new
// in that itself.
type around struct{ page, adds string }

func arounds() []around {
	return []around{
		{"HERE", ""}, {"(do HERE)", ""}, {"(do (do) (do (do HERE) (do)))", ""}, {"(say 1) HERE (say 2)", ""},
		{"(run (fn () HERE))", ""}, {"(run (fn (x y) (vars z) HERE (back z)))", ""}, {"(back (fn () (back (fn () HERE))))", ""},
		{"(if 1 (do HERE) (do))", ""}, {"(if 1 (do) (do HERE))", ""}, {"(if (fn () HERE) (do) (do))", ""},
		{"(while 1 (do HERE))", ""}, {"(while (fn () HERE) (leave))", ""}, {"(while 1 (while 1 (if 1 (next) (do HERE))))", ""},
		{"(say (+ 1 (- 2 (* 3 (< 4 (= 5 (& 6 (fn () HERE))))))))", ""}, {"(run (call (thing 1 (get (fn () HERE) 'k')) 2))", ""}, {"(put 1 (tget (table) (call (fn () HERE))) 2)", ""}, {"(tput 1 2 (fn () HERE))", ""},
		{"(for k 0 1 (do HERE))", "for"}, {"(for k (fn () HERE) 1 (do))", "for"}, {"(for k 0 (+ 1 (fn () HERE)) (next))", "for"},
		{"(run (fn ((d (fn () HERE)))))", "given"}, {"(run (fn (c (d 1) e) HERE))", "given"}, {"(say (join 1 (fn () HERE) 2))", "join"},
		{"(let w (fn () HERE))", "let"}, {"(take (w) (fn () HERE))", "take"}, {"(hidden q) (run (hget q (fn () HERE)))", "hidden hget"}, {"(hidden q) (hput q 1 (fn () HERE))", "hidden hput"},
	}
}

func (a around) with(page string) string { return strings.ReplaceAll(a.page, "HERE", page) }

func oldTongue() []string {
	return []string{
		"", "(say 1)", "(vars)", "(vars a b)", "(do)", "(do (do))", "(run 5)", "(back none)", "(if 1 (do) (do))", "(while 1 (leave))", "(while 1 (do (next)))",
		"(vars a b) (set a (fn (x) (vars y) (set y x) (back y))) (say (call a 5))",
		"(vars t) (set t (table)) (tput t (thing 1 2) 3) (say (tget t (thing)))",
		"(vars a) (put a 'k' (get a (& 1 2))) (say (- (* 1 2) (= 3 (< 4 5))))",
		"(vars given) (set given (fn (given) (back given)))",
		"(vars f i) (set i 0) (while (< i 3) (do (set f (fn (j) (back (+ i j)))) (if (= i 2) (leave) (set i (+ i 1)))))",
	}
}

// inOrderOfTelling has each of these words once, as NewIn tells them.
func inOrderOfTelling(words ...string) []string {
	asked := strings.Fields(strings.Join(words, " "))
	return slices.DeleteFunc(strings.Fields(newOrder), func(word string) bool { return !slices.Contains(asked, word) })
}
