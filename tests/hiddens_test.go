package tests

import (
	"slices"
	"strings"
)

// The document's words about what is hidden, as they stand there: the tests hold
// the program against these. The program goes through the signs and keeps what is
// known; this first gives each hidden NAME its F wherever that one is meant, and
// then fills the document's own lines with the items of a play as a tree.

var (
	tableTree = formTree("(let F (table))")
	tgetTree  = formTree("(tget F SUMS)")
	tputTree  = formTree("(tput F SUMS)")
)

// hiddenPlaces are those of the NAMEs of hiddens, in order.
func hiddenPlaces(l []string) []int {
	var out []int
	for at, sign := range l {
		if sign != "hidden" {
			continue
		}
		for at++; l[at] != ")"; at++ {
			out = append(out, at)
		}
	}
	return out
}

// withFreshHiddens has F in the place of each NAME of a hidden, hget and hput.
func withFreshHiddens(l []string) []string {
	a, fresh, next := alphaOf(l), map[int]string{}, int64(0)
	for _, at := range hiddenPlaces(l) {
		number := freshNumberSlowly(l, next)
		fresh[a.who[at]], next = vNumber(number), number+1
	}
	return a.called(func(n int) string {
		if a.bearers[n].secret {
			return fresh[n]
		}
		return a.bearers[n].name
	})
}

// baredTree is for what withFreshHiddens says.
func baredTree(n tree) tree {
	switch n.head() {
	case "hget":
		return filling{"F": n.within[1:2], "SUMS": baredTrees(n.within[2:])}.fill(tgetTree)[0]
	case "hput":
		return filling{"F": n.within[1:2], "SUMS": baredTrees(n.within[2:])}.fill(tputTree)[0]
	}
	deeds := blockOf(n)
	ahead := n.within[:len(n.within)-len(deeds)]
	return tree{n.sign, n.isList, slices.Concat(baredTrees(ahead), baredBlock(deeds))}
}

func baredTrees(list []tree) []tree {
	var out []tree
	for _, n := range list {
		out = append(out, baredTree(n))
	}
	return out
}

func baredBlock(deeds []tree) []tree {
	var vars, tables []tree
	if len(deeds) > 0 && deeds[0].head() == "vars" {
		vars, deeds = deeds[:1], deeds[1:]
	}
	for _, name := range hiddenSlowly(deeds) {
		tables = append(tables, filling{"F": {{sign: name}}}.fill(tableTree)...)
	}
	others := slices.DeleteFunc(slices.Clone(deeds), func(deed tree) bool { return deed.head() == "hidden" })
	return slices.Concat(vars, tables, baredTrees(others))
}

// hiddensWithin are the NAMEs of all hiddens in it, in order.
func hiddensWithin(n tree) []string {
	if n.head() == "hidden" {
		return signsIn(n.within[1:])
	}
	var out []string
	for _, inner := range n.within {
		out = append(out, hiddensWithin(inner)...)
	}
	return out
}

// A baredAnswers is what the two functions of the chapter answer of one list.
type baredAnswers struct {
	hidden []string
	said   []string
}

func baredSlowly(l []string) baredAnswers {
	if !scopeSlowly(l).scoped {
		return baredAnswers{}
	}
	out := baredAnswers{hiddensWithin(playTree(l)), signsOfTrees(baredBlock(blockOf(playTree(withFreshHiddens(l)))))}
	if !playSlowly(out.said) {
		out.said = nil
	}
	return out
}

// A bareCase is a page, the NAMEs that are hidden in it, what it is said again
// as, and what both say. [F G] stands for (let F (table)) (let G (table)).
type bareCase struct {
	page   string
	hidden string
	again  string
	words  string
}

// tablesPage writes out what stands as [F G].
func tablesPage(page string) string {
	for {
		from := strings.Index(page, "[")
		if from < 0 {
			return page
		}
		to := from + strings.Index(page[from:], "]")
		page = page[:from] + "(let " + strings.Join(strings.Fields(page[from+1:to]), " (table)) (let ") + " (table))" + page[to+1:]
	}
}

// How many hiddens, how many NAMEs, and where they stand, written out in full
// where it is new.
func hiddenNameCases() []bareCase {
	return []bareCase{
		{"(hidden p) (let t (thing)) (hput p t 5) (say (hget p t))", "p", "(let v0 (table)) (let t (thing)) (tput v0 t 5) (say (tget v0 t))", "5 end"},
		{"(hidden p)", "p", "(let v0 (table))", "end"},
		{"(hidden p q)", "p q", "(let v0 (table)) (let v1 (table))", "end"},
		{"(hidden p) (say 1)", "p", "(let v0 (table)) (say 1)", "1 end"},
		// No NAME: no table, and no hidden.
		{"(hidden)", "", "", "end"},
		{"(hidden) (say 1)", "", "(say 1)", "1 end"},
		{"(hidden) (say 1) (hidden) (hidden) (do (hidden)) (hidden)", "", "(say 1) (do)", "1 end"},
		{"(hidden) (hidden p) (hidden) (let t (thing)) (hput p t 1) (say (hget p t)) (hidden)", "p", "[v0] (let t (thing)) (tput v0 t 1) (say (tget v0 t))", "1 end"},
		// Several NAMEs, in one hidden and in several.
		{"(hidden p q) (let t (thing)) (hput p t 1) (hput q t 2) (say (hget p t)) (say (hget q t))", "p q", "(let v0 (table)) (let v1 (table)) (let t (thing)) (tput v0 t 1) (tput v1 t 2) (say (tget v0 t)) (say (tget v1 t))", "1/2 end"},
		{"(hidden q p) (let t (thing)) (hput p t 1) (hput q t 2) (say (hget p t)) (say (hget q t))", "q p", "[v0 v1] (let t (thing)) (tput v1 t 1) (tput v0 t 2) (say (tget v1 t)) (say (tget v0 t))", "1/2 end"},
		{"(hidden q) (hidden p) (let t (thing)) (hput p t 1) (hput q t 2) (say (hget p t)) (say (hget q t))", "q p", "[v0 v1] (let t (thing)) (tput v1 t 1) (tput v0 t 2) (say (tget v1 t)) (say (tget v0 t))", "1/2 end"},
		{"(hidden p) (let t (thing)) (hidden q r) (hput r t 3) (hput q t 2) (hput p t 1) (hidden) (say (join (hget p t) (hget q t) (hget r t) (hget s t))) (hidden s)", "p q r s", "[v0 v1 v2 v3] (let t (thing)) (tput v2 t 3) (tput v1 t 2) (tput v0 t 1) (say (join (tget v0 t) (tget v1 t) (tget v2 t) (tget v3 t)))", "key"},
		{"(hidden a b c d e f g h i j k l) (let t (thing)) (hput l t 12) (hput k t 11) (hput j t 10) (hput a t 1) (say (join (hget l t) (hget k t) (hget j t) (hget a t)))", "a b c d e f g h i j k l", "[v0 v1 v2 v3 v4 v5 v6 v7 v8 v9 v10 v11] (let t (thing)) (tput v11 t 12) (tput v10 t 11) (tput v9 t 10) (tput v0 t 1) (say (join (tget v11 t) (tget v10 t) (tget v9 t) (tget v0 t)))", "1211101 end"},
		// NAMEs of all lengths, of which one begins another.
		{"(hidden abcdefg a abcdefgi ab abcdefgh) (let t (thing)) (hput a t 1) (hput ab t 2) (hput abcdefg t 7) (hput abcdefgh t 8) (hput abcdefgi t 9) (say (join (hget a t) (hget ab t) (hget abcdefg t) (hget abcdefgh t) (hget abcdefgi t)))", "abcdefg a abcdefgi ab abcdefgh",
			"[v0 v1 v2 v3 v4] (let t (thing)) (tput v1 t 1) (tput v3 t 2) (tput v0 t 7) (tput v4 t 8) (tput v2 t 9) (say (join (tget v1 t) (tget v3 t) (tget v0 t) (tget v4 t) (tget v2 t)))", "12789 end"},
		{"(hidden p0 hiddens hget0 none0) (let t (thing ' hidden p ' 'hidden')) (hput hiddens t 'hget') (hput hget0 t 'hput') (say (join (hget hiddens t) (hget hget0 t) (get t 0) (get t 1)))", "p0 hiddens hget0 none0",
			"[v0 v1 v2 v3] (let t (thing ' hidden p ' 'hidden')) (tput v1 t 'hget') (tput v2 t 'hput') (say (join (tget v1 t) (tget v2 t) (get t 0) (get t 1)))", "hgethput hidden p hidden end"},
		// Ahead of, between and behind those that use it.
		{"(let t (thing)) (hidden p) (hput p t 5) (say (hget p t))", "p", "(let v0 (table)) (let t (thing)) (tput v0 t 5) (say (tget v0 t))", "5 end"},
		{"(let t (thing)) (hput p t 5) (hidden p) (say (hget p t))", "p", "[v0] (let t (thing)) (tput v0 t 5) (say (tget v0 t))", "5 end"},
		{"(let t (thing)) (hput p t 5) (say (hget p t)) (hidden p)", "p", "[v0] (let t (thing)) (tput v0 t 5) (say (tget v0 t))", "5 end"},
		{"(let t (thing)) (hput p t 5) (hput q t 6) (say (hget p t)) (hidden p) (say (hget q t)) (hidden q)", "p q", "[v0 v1] (let t (thing)) (tput v0 t 5) (tput v1 t 6) (say (tget v0 t)) (say (tget v1 t))", "5/6 end"},
		{"(let f (fn (x) (back (hget p x)))) (let t (thing)) (hput p t 3) (say (call f t)) (hidden p)", "p", "[v0] (let f (fn (x) (back (tget v0 x)))) (let t (thing)) (tput v0 t 3) (say (call f t))", "3 end"},
		{"(let t (thing)) (hput p t 1) (say (hget p t)) (back 1) (hidden p)", "p", "[v0] (let t (thing)) (tput v0 t 1) (say (tget v0 t)) (back 1)", "1 end"},
		{"(say 1) (say (hget p (thing))) (hidden p)", "p", "[v0] (say 1) (say (tget v0 (thing)))", "1 key"},
	}
}

// Behind a vars that is the first deed, of the play and of a fn.
func hiddenVarsCases() []bareCase {
	return []bareCase{
		{"(vars t) (hidden p) (set t (thing)) (hput p t 5) (say (hget p t))", "p", "(vars t) (let v0 (table)) (set t (thing)) (tput v0 t 5) (say (tget v0 t))", "5 end"},
		{"(vars) (hidden p)", "p", "(vars) (let v0 (table))", "end"},
		{"(vars a) (hidden)", "", "(vars a)", "end"},
		{"(vars a) (say a) (hidden p q)", "p q", "(vars a) [v0 v1] (say a)", "none end"},
		{"(vars a b) (set a (thing)) (hput p a 1) (hidden p) (set b (hget p a)) (say b)", "p", "(vars a b) [v0] (set a (thing)) (tput v0 a 1) (set b (tget v0 a)) (say b)", "1 end"},
		{"(vars p) (hidden p) (set p (thing)) (hput p p 7) (say (hget p p))", "p", "(vars p) [v0] (set p (thing)) (tput v0 p 7) (say (tget v0 p))", "7 end"},
		{"(say (call (fn (t) (vars n) (hidden p) (hput p t 4) (set n (hget p t)) (back n)) (thing)))", "p", "(say (call (fn (t) (vars n) (let v0 (table)) (tput v0 t 4) (set n (tget v0 t)) (back n)) (thing)))", "4 end"},
		{"(say (call (fn (t) (vars) (hput p t 4) (back (hget p t)) (hidden q p)) (thing)))", "q p", "(say (call (fn (t) (vars) [v0 v1] (tput v1 t 4) (back (tget v1 t))) (thing)))", "4 end"},
		{"(vars t) (hidden p) (set t (thing)) (hput p t 1) (say (call (fn () (vars n) (hidden q) (set n (hget p t)) (hput q t 2) (back (join n (hget q t))))))", "p q", "(vars t) [v0] (set t (thing)) (tput v0 t 1) (say (call (fn () (vars n) [v1] (set n (tget v0 t)) (tput v1 t 2) (back (join n (tget v1 t))))))", "12 end"},
		{"(vars t) (set t (thing)) (do (hidden p) (hput p t 1) (say (hget p t)))", "p", "(vars t) (set t (thing)) (do [v0] (tput v0 t 1) (say (tget v0 t)))", "1 end"},
		{"(hidden p) (let t (thing)) (let f (fn () (vars a) (set a 3) (hput p t a))) (run (call f)) (say (hget p t))", "p", "[v0] (let t (thing)) (let f (fn () (vars a) (set a 3) (tput v0 t a))) (run (call f)) (say (tget v0 t))", "3 end"},
	}
}

// In each kind of block.
func hiddenBlockCases() []bareCase {
	return []bareCase{
		{"(let t (thing)) (do (hidden p) (hput p t 1) (say (hget p t)))", "p", "(let t (thing)) (do (let v0 (table)) (tput v0 t 1) (say (tget v0 t)))", "1 end"},
		{"(let t (thing)) (do (do (hput p t 1) (do (say (hget p t)))) (hidden p))", "p", "(let t (thing)) (do [v0] (do (tput v0 t 1) (do (say (tget v0 t)))))", "1 end"},
		{"(do (hidden p))", "p", "(do [v0])", "end"},
		{"(do (do (do (hidden p q)) (do)) (hidden))", "p q", "(do (do (do [v0 v1]) (do)))", "end"},
		// A do in an if, a while and a for.
		{"(let t (thing)) (if 1 (do (hidden p) (hput p t 1) (say (hget p t))) (do (hidden p) (say (hget p t))))", "p p", "(let t (thing)) (if 1 (do [v0] (tput v0 t 1) (say (tget v0 t))) (do [v1] (say (tget v1 t))))", "1 end"},
		{"(let t (thing)) (if 0 (do (hidden p) (hput p t 1) (say (hget p t))) (do (hidden p) (say (hget p t))))", "p p", "(let t (thing)) (if 0 (do [v0] (tput v0 t 1) (say (tget v0 t))) (do [v1] (say (tget v1 t))))", "key"},
		{"(hidden p) (let t (thing)) (if 1 (hput p t 1) (hput p t 2)) (if 0 (hput p t 3) (say (hget p t)))", "p", "[v0] (let t (thing)) (if 1 (tput v0 t 1) (tput v0 t 2)) (if 0 (tput v0 t 3) (say (tget v0 t)))", "1 end"},
		{"(let t (thing)) (let n 0) (while (< n 3) (do (hidden p) (set n (+ n 1)) (hput p t n) (say (hget p t))))", "p", "(let t (thing)) (let n 0) (while (< n 3) (do [v0] (set n (+ n 1)) (tput v0 t n) (say (tget v0 t))))", "1/2/3 end"},
		{"(let t (thing)) (for i 0 3 (do (hidden p) (hput p t i) (say (hget p t))))", "p", "(let t (thing)) (for i 0 3 (do [v0] (tput v0 t i) (say (tget v0 t))))", "0/1/2 end"},
		// Each turn has a table of its own; one that is hidden around the loop is one for all.
		{"(let t (thing)) (for i 0 3 (do (hidden p) (if i (say (hget p t)) (hput p t 5)) (say i)))", "p", "(let t (thing)) (for i 0 3 (do [v0] (if i (say (tget v0 t)) (tput v0 t 5)) (say i)))", "0 key"},
		{"(let t (thing)) (hidden p) (for i 0 3 (do (if i (say (hget p t)) (hput p t 5)) (say i)))", "p", "[v0] (let t (thing)) (for i 0 3 (do (if i (say (tget v0 t)) (tput v0 t 5)) (say i)))", "0/5/1/5/2 end"},
		{"(let t (thing)) (let fs (thing)) (for i 0 3 (do (hput p t i) (put fs i (fn () (hput p t (+ 5 (hget p t))) (back (hget p t)))) (hidden p))) (say (call (get fs 0))) (say (call (get fs 0))) (say (call (get fs 2)))", "p",
			"(let t (thing)) (let fs (thing)) (for i 0 3 (do [v0] (tput v0 t i) (put fs i (fn () (tput v0 t (+ 5 (tget v0 t))) (back (tget v0 t)))))) (say (call (get fs 0))) (say (call (get fs 0))) (say (call (get fs 2)))", "5/10/7 end"},
		{"(hidden p) (let t (thing)) (hput p t 1) (while (hget p t) (do (hput p t (- (hget p t) 1)) (say (hget p t)))) (for i (hget p t) (+ 2 (hget p t)) (do (say i) (hput p t 9)))", "p",
			"[v0] (let t (thing)) (tput v0 t 1) (while (tget v0 t) (do (tput v0 t (- (tget v0 t) 1)) (say (tget v0 t)))) (for i (tget v0 t) (+ 2 (tget v0 t)) (do (say i) (tput v0 t 9)))", "0/0/1 end"},
		{"(let t (thing)) (for i 0 9 (do (hidden p) (hput p t i) (if (= (hget p t) 1) (next) (do)) (if (= (hget p t) 3) (leave) (do)) (say i)))", "p", "(let t (thing)) (for i 0 9 (do [v0] (tput v0 t i) (if (= (tget v0 t) 1) (next) (do)) (if (= (tget v0 t) 3) (leave) (do)) (say i)))", "0/2 end"},
		// A fn: each call has a table of its own, and what is made in it keeps that.
		{"(let t (thing)) (let f (fn (x) (hidden p) (hput p t x) (back (hget p t)))) (say (call f 1)) (say (call f 2))", "p", "(let t (thing)) (let f (fn (x) [v0] (tput v0 t x) (back (tget v0 t)))) (say (call f 1)) (say (call f 2))", "1/2 end"},
		{"(let t (thing)) (let f (fn (x) (hidden p) (if x (hput p t x) (do)) (say (hget p t)))) (run (call f 1)) (run (call f 0))", "p", "(let t (thing)) (let f (fn (x) [v0] (if x (tput v0 t x) (do)) (say (tget v0 t)))) (run (call f 1)) (run (call f 0))", "1 key"},
		{"(let t (thing)) (let make (fn (n) (hidden p) (hput p t n) (back (fn () (hput p t (+ 1 (hget p t))) (back (hget p t)))))) (let a (call make 10)) (let b (call make 20)) (say (call a)) (say (call b)) (say (call a))", "p",
			"(let t (thing)) (let make (fn (n) [v0] (tput v0 t n) (back (fn () (tput v0 t (+ 1 (tget v0 t))) (back (tget v0 t)))))) (let a (call make 10)) (let b (call make 20)) (say (call a)) (say (call b)) (say (call a))", "11/21/12 end"},
		{"(let t (thing)) (let f (fn (n) (hidden p) (hput p t n) (if (< n 3) (run (call f (+ n 1))) (do)) (say (hget p t)))) (run (call f 1))", "p", "(let t (thing)) (let f (fn (n) [v0] (tput v0 t n) (if (< n 3) (run (call f (+ n 1))) (do)) (say (tget v0 t)))) (run (call f 1))", "3/2/1 end"},
		{"(run (fn () (hidden p)))", "p", "(run (fn () [v0]))", "end"},
		{"(run (call (fn () (hidden))))", "", "(run (call (fn ())))", "end"},
		{"(say (call (fn () (back 4) (hidden p) (say 'no'))))", "p", "(say (call (fn () [v0] (back 4) (say 'no'))))", "4 end"},
		// With a PARAM (NAME SUM): its block is hidden from its SUMs, what is around it is not.
		{"(let t (thing)) (say (call (fn ((x 3)) (hidden p) (hput p t x) (back (hget p t)))))", "p", "(let t (thing)) (say (call (fn ((x 3)) [v0] (tput v0 t x) (back (tget v0 t)))))", "3 end"},
		{"(hidden p) (let t (thing)) (hput p t 1) (say (call (fn ((x (hget p t)) y (z (+ x (hget p t)))) (hidden p) (hput p t 5) (back (join x z (hget p t))))))", "p p", "[v0] (let t (thing)) (tput v0 t 1) (say (call (fn ((x (tget v0 t)) y (z (+ x (tget v0 t)))) [v1] (tput v1 t 5) (back (join x z (tget v1 t))))))", "125 end"},
		{"(hidden p) (let t (thing)) (hput p t 1) (say (call (fn ((x (call (fn () (hidden p) (hput p t 8) (back (hget p t)))))) (hput p t 5) (back (join x (hget p t))) (hidden p)))) (say (hget p t))", "p p p",
			"[v0] (let t (thing)) (tput v0 t 1) (say (call (fn ((x (call (fn () [v1] (tput v1 t 8) (back (tget v1 t)))))) [v2] (tput v2 t 5) (back (join x (tget v2 t)))))) (say (tget v0 t))", "85/1 end"},
		{"(let t (thing)) (say (call (fn ((x (call (fn ((y 2)) (hidden q) (hput q t y) (back (hget q t)))))) (back x))))", "q", "(let t (thing)) (say (call (fn ((x (call (fn ((y 2)) [v0] (tput v0 t y) (back (tget v0 t)))))) (back x))))", "2 end"},
	}
}

// One NAME hidden in a block, and again within, beside and around it.
func hiddenAgainCases() []bareCase {
	return []bareCase{
		{"(hidden p) (let t (thing)) (hput p t 1) (do (hidden p) (hput p t 2) (say (hget p t))) (say (hget p t))", "p p", "(let v0 (table)) (let t (thing)) (tput v0 t 1) (do (let v1 (table)) (tput v1 t 2) (say (tget v1 t))) (say (tget v0 t))", "2/1 end"},
		{"(hidden p) (let t (thing)) (hput p t 1) (do (hput p t 2) (say (hget p t)) (hidden p)) (say (hget p t))", "p p", "[v0] (let t (thing)) (tput v0 t 1) (do [v1] (tput v1 t 2) (say (tget v1 t))) (say (tget v0 t))", "2/1 end"},
		{"(hidden p) (let t (thing)) (hput p t 1) (do (say (hget p t)) (hidden p))", "p p", "[v0] (let t (thing)) (tput v0 t 1) (do [v1] (say (tget v1 t)))", "key"},
		{"(hidden p) (let t (thing)) (hput p t 1) (do (say (hget p t)) (do (hidden p)))", "p p", "[v0] (let t (thing)) (tput v0 t 1) (do (say (tget v0 t)) (do [v1]))", "1 end"},
		// The one within begins ahead of the one around it, and has the earlier name.
		{"(let t (thing)) (do (hidden p) (hput p t 2) (say (hget p t))) (hput p t 1) (say (hget p t)) (hidden p)", "p p", "(let v1 (table)) (let t (thing)) (do (let v0 (table)) (tput v0 t 2) (say (tget v0 t))) (tput v1 t 1) (say (tget v1 t))", "2/1 end"},
		{"(do (hidden p)) (hidden q)", "p q", "(let v1 (table)) (do (let v0 (table)))", "end"},
		{"(let t (thing)) (let f (fn () (hidden p) (do (hidden q) (hput q t 1) (hput p t 2) (hput r t 3)) (hidden q) (hput q t 4) (say (join (hget p t) (hget q t) (hget r t))))) (hidden r p) (run (call f)) (say (hget r t)) (say (hget p t))", "p q q r p",
			"[v3 v4] (let t (thing)) (let f (fn () [v0 v2] (do [v1] (tput v1 t 1) (tput v0 t 2) (tput v3 t 3)) (tput v2 t 4) (say (join (tget v0 t) (tget v2 t) (tget v3 t))))) (run (call f)) (say (tget v3 t)) (say (tget v4 t))", "243/3 key"},
		// Beside.
		{"(let t (thing)) (do (hidden p) (hput p t 1) (say (hget p t))) (do (hidden p) (hput p t 2) (say (hget p t)))", "p p", "(let t (thing)) (do [v0] (tput v0 t 1) (say (tget v0 t))) (do [v1] (tput v1 t 2) (say (tget v1 t)))", "1/2 end"},
		{"(let t (thing)) (do (hidden p) (hput p t 1) (say (hget p t))) (do (say (hget p t)) (hidden p))", "p p", "(let t (thing)) (do [v0] (tput v0 t 1) (say (tget v0 t))) (do [v1] (say (tget v1 t)))", "1 key"},
		{"(hidden p) (let t (thing)) (hput p t 0) (do (hidden p) (hput p t 1)) (do (say (hget p t))) (do (hidden p) (hput p t 2) (say (hget p t))) (say (hget p t))", "p p p", "[v0] (let t (thing)) (tput v0 t 0) (do [v1] (tput v1 t 1)) (do (say (tget v0 t))) (do [v2] (tput v2 t 2) (say (tget v2 t))) (say (tget v0 t))", "0/2/0 end"},
		// Within one another, of two NAMEs.
		{"(hidden p q) (let t (thing)) (hput p t 1) (hput q t 2) (do (hidden q) (hput q t 3) (say (join (hget p t) (hget q t))) (do (hidden p) (hput p t 4) (say (join (hget p t) (hget q t))) (do (hidden q p) (hput q t 5) (hput p t 6) (say (join (hget p t) (hget q t)))) (say (join (hget p t) (hget q t)))) (say (join (hget p t) (hget q t)))) (say (join (hget p t) (hget q t)))", "p q q p q p",
			"[v0 v1] (let t (thing)) (tput v0 t 1) (tput v1 t 2) (do [v2] (tput v2 t 3) (say (join (tget v0 t) (tget v2 t))) (do [v3] (tput v3 t 4) (say (join (tget v3 t) (tget v2 t))) (do [v4 v5] (tput v4 t 5) (tput v5 t 6) (say (join (tget v5 t) (tget v4 t)))) (say (join (tget v3 t) (tget v2 t)))) (say (join (tget v0 t) (tget v2 t)))) (say (join (tget v0 t) (tget v1 t)))", "13/43/65/43/13/12 end"},
		// In a fn and around it.
		{"(hidden p) (let t (thing)) (hput p t 1) (let f (fn () (hidden p) (hput p t 2) (back (hget p t)))) (let g (fn () (hput p t (+ 1 (hget p t))) (back (hget p t)))) (say (call f)) (say (call g)) (say (call f)) (say (call g))", "p p",
			"[v0] (let t (thing)) (tput v0 t 1) (let f (fn () [v1] (tput v1 t 2) (back (tget v1 t)))) (let g (fn () (tput v0 t (+ 1 (tget v0 t))) (back (tget v0 t)))) (say (call f)) (say (call g)) (say (call f)) (say (call g))", "2/2/2/3 end"},
		{"(let t (thing)) (hput p t 1) (say (call (fn () (back (call (fn () (hput p t 3) (back (hget p t)) (hidden p))))))) (say (hget p t)) (hidden p)", "p p", "[v1] (let t (thing)) (tput v1 t 1) (say (call (fn () (back (call (fn () [v0] (tput v0 t 3) (back (tget v0 t)))))))) (say (tget v1 t))", "3/1 end"},
		{"(hidden p) (let t (thing)) (for i 0 2 (do (hput p t i) (do (hidden p) (hput p t (* i 5)) (say (hget p t))) (say (hget p t)))) (say (hget p t))", "p p", "[v0] (let t (thing)) (for i 0 2 (do (tput v0 t i) (do [v1] (tput v1 t (* i 5)) (say (tget v1 t))) (say (tget v0 t)))) (say (tget v0 t))", "0/0/5/1/1 end"},
	}
}

// NAMEs that are declared, too, and those that are fresh names' own texts.
func hiddenFreshCases() []bareCase {
	return []bareCase{
		{"(hidden p) (let p (thing)) (hput p p 5) (say (hget p p))", "p", "(let v0 (table)) (let p (thing)) (tput v0 p 5) (say (tget v0 p))", "5 end"},
		{"(hidden p q) (take (p q) (thing (thing) 6)) (hput p p q) (say (hget p p)) (set p q) (say p)", "p q", "[v0 v1] (take (p q) (thing (thing) 6)) (tput v0 p q) (say (tget v0 p)) (set p q) (say p)", "6/6 end"},
		{"(hidden p) (say (call (fn (p) (hput p p 1) (back (hget p p))) (thing)))", "p", "[v0] (say (call (fn (p) (tput v0 p 1) (back (tget v0 p))) (thing)))", "1 end"},
		{"(say (call (fn (p) (hidden p) (hput p p 1) (back (hget p p))) (thing)))", "p", "(say (call (fn (p) [v0] (tput v0 p 1) (back (tget v0 p))) (thing)))", "1 end"},
		{"(say (call (fn ((p (thing))) (hidden p) (hput p p p) (back (= p (hget p p))))))", "p", "(say (call (fn ((p (thing))) [v0] (tput v0 p p) (back (= p (tget v0 p))))))", "1 end"},
		{"(hidden i) (let t (thing)) (for i 0 3 (do (hput i t i) (say (hget i t)))) (say (hget i t))", "i", "[v0] (let t (thing)) (for i 0 3 (do (tput v0 t i) (say (tget v0 t)))) (say (tget v0 t))", "0/1/2/2 end"},
		{"(hidden p) (let t (thing)) (hput p t 1) (do (let p 5) (say p) (say (hget p t)) (let f (fn (p) (say p) (hput p t p))) (run (call f 7))) (say (hget p t))", "p", "[v0] (let t (thing)) (tput v0 t 1) (do (let p 5) (say p) (say (tget v0 t)) (let f (fn (p) (say p) (tput v0 t p))) (run (call f 7))) (say (tget v0 t))", "5/1/7/7 end"},
		// v0 and so on: as a hidden NAME, as one that is declared, as both.
		{"(hidden v0) (let t (thing)) (hput v0 t 1) (say (hget v0 t))", "v0", "(let v1 (table)) (let t (thing)) (tput v1 t 1) (say (tget v1 t))", "1 end"},
		{"(hidden v1) (let t (thing)) (hput v1 t 1) (say (hget v1 t))", "v1", "(let v0 (table)) (let t (thing)) (tput v0 t 1) (say (tget v0 t))", "1 end"},
		{"(hidden v1 v0) (let t (thing)) (hput v1 t 1) (hput v0 t 2) (say (hget v1 t))", "v1 v0", "[v2 v3] (let t (thing)) (tput v2 t 1) (tput v3 t 2) (say (tget v2 t))", "1 end"},
		{"(hidden v0 v2 p) (let t (thing)) (hput v0 t 1) (hput v2 t 2) (hput p t 3) (say (join (hget v0 t) (hget v2 t) (hget p t)))", "v0 v2 p", "[v1 v3 v4] (let t (thing)) (tput v1 t 1) (tput v3 t 2) (tput v4 t 3) (say (join (tget v1 t) (tget v3 t) (tget v4 t)))", "123 end"},
		{"(hidden p) (let v0 (thing)) (hput p v0 1) (say (hget p v0))", "p", "(let v1 (table)) (let v0 (thing)) (tput v1 v0 1) (say (tget v1 v0))", "1 end"},
		{"(hidden v0) (let v0 (thing)) (hput v0 v0 1) (do (let v1 2) (hidden v0) (hput v0 v0 v1) (say (hget v0 v0))) (say (hget v0 v0))", "v0 v0", "[v2] (let v0 (thing)) (tput v2 v0 1) (do [v3] (let v1 2) (tput v3 v0 v1) (say (tget v3 v0))) (say (tget v2 v0))", "2/1 end"},
		{"(hidden p) (do (hidden q) (do (hidden r) (let v1 (thing)) (hput p v1 1) (hput q v1 2) (hput r v1 3) (say (join (hget p v1) (hget q v1) (hget r v1)))))", "p q r", "[v0] (do [v2] (do [v3] (let v1 (thing)) (tput v0 v1 1) (tput v2 v1 2) (tput v3 v1 3) (say (join (tget v0 v1) (tget v2 v1) (tget v3 v1)))))", "123 end"},
		{"(run (fn (v0 (v2 1)) (back v2))) (for v4 0 1 (do (take (v5) (thing)))) (hidden p q r)", "p q r", "[v1 v3 v6] (run (fn (v0 (v2 1)) (back v2))) (for v4 0 1 (do (take (v5) (thing))))", "end"},
		{"(let v 1) (let v00 2) (let w0 3) (let v10 4) (hidden p) (let t (thing 'v0')) (hput p t (get t 0)) (say (hget p t))", "p", "[v0] (let v 1) (let v00 2) (let w0 3) (let v10 4) (let t (thing 'v0')) (tput v0 t (get t 0)) (say (tget v0 t))", "v0 end"},
	}
}

// What the SUMs are, and how it ends.
func hiddenSumCases() []bareCase {
	return []bareCase{
		// Within each other's SUMs.
		{"(hidden p q) (let t (thing)) (let u (thing)) (hput p t u) (hput q u 7) (say (hget q (hget p t)))", "p q", "[v0 v1] (let t (thing)) (let u (thing)) (tput v0 t u) (tput v1 u 7) (say (tget v1 (tget v0 t)))", "7 end"},
		{"(hidden p q) (let t (thing)) (let u (thing)) (hput p t u) (hput q u t) (hput q (hget p (hget q u)) (= (hget q (hget p t)) t)) (say (hget q u))", "p q", "[v0 v1] (let t (thing)) (let u (thing)) (tput v0 t u) (tput v1 u t) (tput v1 (tget v0 (tget v1 u)) (= (tget v1 (tget v0 t)) t)) (say (tget v1 u))", "1 end"},
		{"(hidden p) (let t (thing)) (hput p t (call (fn () (hput p t 4) (back (+ 1 (hget p t)))))) (say (hget p (call (fn () (say (hget p t)) (hput p t 6) (back t)))))", "p", "[v0] (let t (thing)) (tput v0 t (call (fn () (tput v0 t 4) (back (+ 1 (tget v0 t)))))) (say (tget v0 (call (fn () (say (tget v0 t)) (tput v0 t 6) (back t)))))", "5/6 end"},
		{"(hidden p) (let t (thing)) (hput p (call (fn () (hidden p) (hput p t t) (back (hget p t)))) (call (fn () (back (hget p t)) (hidden p))))", "p p p", "[v0] (let t (thing)) (tput v0 (call (fn () [v1] (tput v1 t t) (back (tget v1 t)))) (call (fn () [v2] (back (tget v2 t)))))", "key"},
		// A thing, and another one; nothing put; none put; put again.
		{"(hidden p) (let t (thing)) (let u (thing)) (hput p t 1) (hput p u 2) (say (hget p t)) (say (hget p u)) (hput p t 3) (say (hget p t)) (say (hget p u)) (say (hget p (thing)))", "p", "[v0] (let t (thing)) (let u (thing)) (tput v0 t 1) (tput v0 u 2) (say (tget v0 t)) (say (tget v0 u)) (tput v0 t 3) (say (tget v0 t)) (say (tget v0 u)) (say (tget v0 (thing)))", "1/2/3/2 key"},
		{"(hidden p) (let t (thing)) (hput p t none) (say (hget p t))", "p", "[v0] (let t (thing)) (tput v0 t none) (say (tget v0 t))", "none end"},
		{"(hidden p) (let t (thing 1)) (put t 'p' 2) (hput p t 3) (say (get t 'p')) (say (get t 'v0')) (say (hget p t))", "p", "[v0] (let t (thing 1)) (put t 'p' 2) (tput v0 t 3) (say (get t 'p')) (say (get t 'v0')) (say (tget v0 t))", "2/none/3 end"},
		{"(hidden p) (let m (table)) (let t (thing)) (tput m t 1) (hput p t 2) (say (tget m t)) (say (hget p t)) (hput p t m) (say (tget (hget p t) t))", "p", "[v0] (let m (table)) (let t (thing)) (tput m t 1) (tput v0 t 2) (say (tget m t)) (say (tget v0 t)) (tput v0 t m) (say (tget (tget v0 t) t))", "1/2/1 end"},
		// What is put is of each kind.
		{"(hidden p) (let t (thing)) (hput p t (fn (x) (back (+ x 1)))) (say (call (hget p t) 4)) (hput p t (thing 8)) (say (get (hget p t) 0)) (hput p t t) (say (= t (hget p t))) (hput p t 'ab') (say (& (hget p t) 'c'))", "p",
			"[v0] (let t (thing)) (tput v0 t (fn (x) (back (+ x 1)))) (say (call (tget v0 t) 4)) (tput v0 t (thing 8)) (say (get (tget v0 t) 0)) (tput v0 t t) (say (= t (tget v0 t))) (tput v0 t 'ab') (say (& (tget v0 t) 'c'))", "5/8/1/abc end"},
		// No thing.
		{"(hidden p) (say 1) (hput p 1 2)", "p", "[v0] (say 1) (tput v0 1 2)", "1 kind"},
		{"(hidden p) (say 1) (hput p 'a' 2)", "p", "[v0] (say 1) (tput v0 'a' 2)", "1 kind"},
		{"(hidden p) (say 1) (hput p none 2)", "p", "[v0] (say 1) (tput v0 none 2)", "1 kind"},
		{"(hidden p) (say 1) (hput p (fn ()) 2)", "p", "[v0] (say 1) (tput v0 (fn ()) 2)", "1 kind"},
		{"(hidden p) (say 1) (hput p (table) 2)", "p", "[v0] (say 1) (tput v0 (table) 2)", "1 kind"},
		{"(hidden p) (say 1) (say (hget p 5))", "p", "[v0] (say 1) (say (tget v0 5))", "1 kind"},
		{"(hidden p) (say 1) (say (hget p (table)))", "p", "[v0] (say 1) (say (tget v0 (table)))", "1 kind"},
		{"(hidden p) (hput p 5 6) (hput p (thing) 7)", "p", "[v0] (tput v0 5 6) (tput v0 (thing) 7)", "kind"},
		// All sums ahead of the fault.
		{"(let f (fn (x) (say x) (back x))) (hidden p) (hput p (call f 1) (call f 2))", "p", "[v0] (let f (fn (x) (say x) (back x))) (tput v0 (call f 1) (call f 2))", "1/2 kind"},
		{"(hidden p) (say 1) (hput p 1 " + over + ")", "p", "[v0] (say 1) (tput v0 1 " + over + ")", "1 over"},
		{"(hidden p) (say 1) (hput p " + over + " (+ 1 none))", "p", "[v0] (say 1) (tput v0 " + over + " (+ 1 none))", "1 over"},
		{"(hidden p) (say 1) (hput p (hget p (thing)) " + over + ")", "p", "[v0] (say 1) (tput v0 (tget v0 (thing)) " + over + ")", "1 key"},
		{"(hidden p) (say 1) (say (hget p (+ 1 none)))", "p", "[v0] (say 1) (say (tget v0 (+ 1 none)))", "1 kind"},
		{"(hidden p) (let t (thing)) (hput p t (fn ())) (say 1) (say (hget p t))", "p", "[v0] (let t (thing)) (tput v0 t (fn ())) (say 1) (say (tget v0 t))", "1 kind"},
		// Too much at once: tables, calls, what is said.
		{"(say 1) (let n 0) (while 1 (do (hidden p) (set n (+ n 1)) (if (< 198 n) (say n) (do))))", "p", "(say 1) (let n 0) (while 1 (do [v0] (set n (+ n 1)) (if (< 198 n) (say n) (do))))", "1/199/200 many"},
		{"(let f (fn (n) (hidden p q r s u) (if (< 37 n) (say n) (do)) (run (call f (+ n 1))))) (run (call f 1))", "p q r s u", "(let f (fn (n) [v0 v1 v2 v3 v4] (if (< 37 n) (say n) (do)) (run (call f (+ n 1))))) (run (call f 1))", "38/39/40 many"},
		{"(hidden p) (let t (thing)) (hput p t 0) (let f (fn () (hput p t (+ 1 (hget p t))) (if (< 38 (hget p t)) (say (hget p t)) (do)) (run (call f)))) (run (call f))", "p", "[v0] (let t (thing)) (tput v0 t 0) (let f (fn () (tput v0 t (+ 1 (tget v0 t))) (if (< 38 (tget v0 t)) (say (tget v0 t)) (do)) (run (call f)))) (run (call f))", "39/40 many"},
	}
}

func bareCases() []bareCase {
	return slices.Concat(hiddenNameCases(), hiddenVarsCases(), hiddenBlockCases(), hiddenAgainCases(), hiddenFreshCases(), hiddenSumCases())
}

// nothingHidden are pages that are Scoped and have no hidden.
func nothingHidden() []string {
	return slices.Concat(oldTongue(), []string{
		"(let a 1)", "(let hiddens 1) (say hiddens)", "(let hidden0 (table)) (say (= hidden0 hidden0))", "(say 'hidden')", "(say ' hidden p ')", "(say (& 'hget' (join 'hput' 'hidden')))", "(let v0 (table)) (let t (thing)) (tput v0 t 1) (say (tget v0 t))", "(run (fn ((x (table))) (back x)))",
		"(take (a b) (thing 1 2)) (say (& a b))", "(for i 0 3 (say i))", "(let f (fn (hid (den (get hid 0))) (back den))) (say (call f (thing 4)))", "(while 1 (do (let a (fn (b) (say b))) (leave)))", "(vars a) (let b (table)) (do (let v0 (table)) (let v1 v0) (say (= v1 b)))",
	})
}
