package tests

import (
	"fmt"
	"slices"
	"strconv"
	"strings"
)

// The document's words about what is taken to pieces, as they stand there: the
// tests hold the program against these. The program goes through the signs from
// the last take to the first; this goes into a play as a tree from the first one
// on, and fills the document's own lines.

var (
	wholeTree = formTree("(let F SUM)")
	pieceTree = formTree("(let NAME (get F NUMBER))")
)

// A slowTaker gives each take the next fresh name, as it begins.
type slowTaker struct {
	play []string
	next int64
}

func (s *slowTaker) fresh() tree {
	number := freshNumberSlowly(s.play, s.next)
	s.next = number + 1
	return tree{sign: vNumber(number)}
}

func (s *slowTaker) taken(list []tree) []tree {
	var out []tree
	for _, n := range list {
		if n.head() == "take" {
			out = append(out, s.pieces(n)...)
			continue
		}
		out = append(out, tree{n.sign, n.isList, s.taken(n.within)})
	}
	return out
}

func (s *slowTaker) pieces(take tree) []tree {
	f := []tree{s.fresh()}
	out := filling{"F": f, "SUM": s.taken(take.within[2:])}.fill(wholeTree)
	for n, name := range take.within[1].within {
		number := tree{sign: strconv.Itoa(n)}
		out = append(out, filling{"F": f, "NAME": {name}, "NUMBER": {number}}.fill(pieceTree)...)
	}
	return out
}

// A takenAnswers is what the two functions of the chapter answer of one list.
type takenAnswers struct {
	count int64
	said  []string
}

func takenSlowly(l []string) takenAnswers {
	if !scopeSlowly(l).scoped {
		return takenAnswers{count: -1}
	}
	play, taker := playTree(l), slowTaker{play: l}
	out := takenAnswers{headsIn(play, "take"), signsOfTrees(taker.taken(blockOf(play)))}
	if !playSlowly(out.said) {
		out.said = nil
	}
	return out
}

// A takenCase is a page, how many takes there are in it, what it is said again
// as, and what both say. [F A B: SUM] stands for the deeds in the place of
// (take (A B) SUM).
type takenCase struct {
	page  string
	count int64
	again string
	words string
}

// piecesPage writes out what stands as [F A B: SUM], from the innermost one on.
func piecesPage(page string) string {
	for {
		from := strings.LastIndex(page, "[")
		if from < 0 {
			return page
		}
		to := from + strings.Index(page[from:], "]")
		names, sum, _ := strings.Cut(page[from+1:to], ": ")
		words := strings.Fields(names)
		pieces := fmt.Sprintf("(let %s %s)", words[0], sum)
		for n, name := range words[1:] {
			pieces += fmt.Sprintf(" (let %s (get %s %d))", name, words[0], n)
		}
		page = page[:from] + pieces + page[to+1:]
	}
}

// How many NAMEs and how many places, written out in full where it is new.
func pieceCases() []takenCase {
	return []takenCase{
		{"(take (a) (thing 1)) (say a)", 1, "(let v0 (thing 1)) (let a (get v0 0)) (say a)", "1 end"},
		{"(take (a b) (thing 1 2)) (say b)", 1, "(let v0 (thing 1 2)) (let a (get v0 0)) (let b (get v0 1)) (say b)", "2 end"},
		{"(take (c a b) (thing 1 2 3)) (say (join a b c))", 1, "(let v0 (thing 1 2 3)) (let c (get v0 0)) (let a (get v0 1)) (let b (get v0 2)) (say (join a b c))", "231 end"},
		{"(take (a) (thing 1))", 1, "(let v0 (thing 1)) (let a (get v0 0))", "end"},
		// Fewer places than NAMEs, none at all, and more.
		{"(take (a b) (thing 1)) (say a) (say b)", 1, "[v0 a b: (thing 1)] (say a) (say b)", "1/none end"},
		{"(take (a b c) (thing)) (say (join a b c))", 1, "[v0 a b c: (thing)] (say (join a b c))", "nonenonenone end"},
		{"(take (a b) (thing 1 2 3)) (say a) (say b)", 1, "[v0 a b: (thing 1 2 3)] (say a) (say b)", "1/2 end"},
		{"(take (a) (thing 7 8 9)) (say a)", 1, "[v0 a: (thing 7 8 9)] (say a)", "7 end"},
		{"(take (a b c d e f g h i j k l) (thing 1 2 3 4 5 6 7 8 9 10 11 12)) (say (join l k j a))", 1,
			"(let v0 (thing 1 2 3 4 5 6 7 8 9 10 11 12)) (let a (get v0 0)) (let b (get v0 1)) (let c (get v0 2)) (let d (get v0 3)) (let e (get v0 4)) (let f (get v0 5)) (let g (get v0 6)) (let h (get v0 7)) (let i (get v0 8)) (let j (get v0 9)) (let k (get v0 10)) (let l (get v0 11)) (say (join l k j a))", "1211101 end"},
		// Places that were put: one left out, one by a text, one anew.
		{"(let t (thing)) (put t 1 'x') (take (a b c) t) (say (join a b c))", 1, "(let t (thing)) (put t 1 'x') [v0 a b c: t] (say (join a b c))", "nonexnone end"},
		{"(let t (thing)) (put t '0' 'x') (put t -1 'y') (take (a) t) (say a)", 1, "(let t (thing)) (put t '0' 'x') (put t -1 'y') [v0 a: t] (say a)", "none end"},
		{"(let t (thing 1 2)) (put t 0 3) (take (a b) t) (put t 1 4) (say (join a b))", 1, "(let t (thing 1 2)) (put t 0 3) [v0 a b: t] (put t 1 4) (say (join a b))", "32 end"},
		// What is at the places: all kinds.
		{"(take (a b c d e) (thing (thing 5) (fn (x) (back x)) (table) none '')) (say (get a 0)) (say (call b 6)) (tput c a 7) (say (tget c a)) (say d) (say e)", 1,
			"[v0 a b c d e: (thing (thing 5) (fn (x) (back x)) (table) none '')] (say (get a 0)) (say (call b 6)) (tput c a 7) (say (tget c a)) (say d) (say e)", "5/6/7/none/ end"},
		// The thing stays what it was.
		{"(let t (thing 1 (thing 2))) (take (a b) t) (set a 5) (put b 0 6) (say (get t 0)) (say (get (get t 1) 0))", 1, "(let t (thing 1 (thing 2))) [v0 a b: t] (set a 5) (put b 0 6) (say (get t 0)) (say (get (get t 1) 0))", "1/6 end"},
		{"(let t (thing 1 2)) (take (a b) t) (take (c d) t) (set a 3) (say (join a b c d))", 2, "(let t (thing 1 2)) [v0 a b: t] [v1 c d: t] (set a 3) (say (join a b c d))", "3212 end"},
		{"(let t (thing 1 2)) (put t 0 t) (take (a b) t) (say (= a t)) (take (c d) a) (say (+ b d))", 2, "(let t (thing 1 2)) (put t 0 t) [v0 a b: t] (say (= a t)) [v1 c d: a] (say (+ b d))", "1/4 end"},
		// Names of all lengths, and those that look like a word or like a fresh one.
		{"(take (a abcdefgh taken take0 lets v none0) (thing 1 2 3 4 5 6 7)) (say (join a abcdefgh taken take0 lets v none0))", 1, "[v0 a abcdefgh taken take0 lets v none0: (thing 1 2 3 4 5 6 7)] (say (join a abcdefgh taken take0 lets v none0))", "1234567 end"},
		{"(let t (thing 'take' ' take a 1')) (take (a b) t) (say a) (say b)", 1, "(let t (thing 'take' ' take a 1')) [v0 a b: t] (say a) (say b)", "take/ take a 1 end"},
	}
}

func takenSumCases() []takenCase {
	return []takenCase{
		// No thing.
		{"(say 1) (take (a) 5) (say 2)", 1, "(say 1) [v0 a: 5] (say 2)", "1 kind"},
		{"(say 1) (take (a b) 'ab') (say 2)", 1, "(say 1) [v0 a b: 'ab'] (say 2)", "1 kind"},
		{"(say 1) (take (a) none) (say 2)", 1, "(say 1) [v0 a: none] (say 2)", "1 kind"},
		{"(say 1) (take (a) (fn ())) (say 2)", 1, "(say 1) [v0 a: (fn ())] (say 2)", "1 kind"},
		{"(say 1) (take (a b) (table)) (say 2)", 1, "(say 1) [v0 a b: (table)] (say 2)", "1 kind"},
		{"(say 1) (take (a) (call (fn ()))) (say 2)", 1, "(say 1) [v0 a: (call (fn ()))] (say 2)", "1 kind"},
		{"(say 1) (take (a) 0) (take (b) " + over + ")", 2, "(say 1) [v0 a: 0] [v1 b: " + over + "]", "1 kind"},
		// One that ends with a fault.
		{"(say 1) (take (a) (thing (+ 1 none))) (say 2)", 1, "(say 1) [v0 a: (thing (+ 1 none))] (say 2)", "1 kind"},
		{"(say 1) (take (a b) (thing 1 " + over + ")) (say 2)", 1, "(say 1) [v0 a b: (thing 1 " + over + ")] (say 2)", "1 over"},
		{"(say 1) (take (a) (tget (table) (thing))) (say 2)", 1, "(say 1) [v0 a: (tget (table) (thing))] (say 2)", "1 key"},
		{"(let f (fn (n) (take (a) (call f (+ n 1))) (back a))) (say 1) (take (a) (call f 0))", 2, "(let f (fn (n) [v0 a: (call f (+ n 1))] (back a))) (say 1) [v1 a: (call f 0)]", "1 many"},
		// One that says something, once.
		{"(let f (fn (x) (say x) (back (thing x (+ x 1))))) (take (a b) (call f 3)) (say (join a b))", 1, "(let f (fn (x) (say x) (back (thing x (+ x 1))))) [v0 a b: (call f 3)] (say (join a b))", "3/34 end"},
		{"(let f (fn (x) (say x) (back x))) (take (a b) (thing (call f 1) (call f 2))) (take (c) (call f 3)) (say 'no')", 2, "(let f (fn (x) (say x) (back x))) [v0 a b: (thing (call f 1) (call f 2))] [v1 c: (call f 3)] (say 'no')", "1/2/3 kind"},
		// One that uses a NAME that the take declares.
		{"(say 1) (take (a) a) (say 2)", 1, "(say 1) [v0 a: a] (say 2)", "1 kind"},
		{"(take (a b) (thing b a)) (say a) (say b)", 1, "[v0 a b: (thing b a)] (say a) (say b)", "none/none end"},
		{"(let a 7) (do (take (a b) (thing a 2)) (say (join a b))) (say a)", 1, "(let a 7) (do [v0 a b: (thing a 2)] (say (join a b))) (say a)", "none2/7 end"},
		{"(set a (thing 5 6)) (take (a b) a) (say (join a b))", 1, "(set a (thing 5 6)) [v0 a b: a] (say (join a b))", "56 end"},
		{"(set b (thing 5 6)) (take (a b) b) (say (join a b))", 1, "(set b (thing 5 6)) [v0 a b: b] (say (join a b))", "56 end"},
		{"(set b 4) (take (a b) (thing (+ b 1) (+ b 2))) (say (join a b))", 1, "(set b 4) [v0 a b: (thing (+ b 1) (+ b 2))] (say (join a b))", "56 end"},
		{"(take (a b) (thing 1 (fn () (back a)))) (say (call b)) (set a 2) (say (call b))", 1, "[v0 a b: (thing 1 (fn () (back a)))] (say (call b)) (set a 2) (say (call b))", "1/2 end"},
		{"(take (a b) (thing 1 (fn () (set a (+ a 1)) (back (thing a b))))) (take (c d) (call b)) (say c) (take (e) (call d)) (say e)", 3, "[v0 a b: (thing 1 (fn () (set a (+ a 1)) (back (thing a b))))] [v1 c d: (call b)] (say c) [v2 e: (call d)] (say e)", "2/3 end"},
		{"(take (a b) (call (fn () (set a 8) (back (thing 9))))) (say a) (say b)", 1, "[v0 a b: (call (fn () (set a 8) (back (thing 9))))] (say a) (say b)", "9/none end"},
		// NAMEs that are asked ahead of it, and one that is set again.
		{"(say a) (take (a) (thing 1)) (say a)", 1, "(say a) [v0 a: (thing 1)] (say a)", "none/1 end"},
		{"(let f (fn () (back a))) (say (call f)) (take (a) (thing 1)) (say (call f)) (set a 2) (say (call f))", 1, "(let f (fn () (back a))) (say (call f)) [v0 a: (thing 1)] (say (call f)) (set a 2) (say (call f))", "none/1/2 end"},
		// Each form as one.
		{"(hidden p) (let t (thing (thing 1))) (let m (table)) (tput m t t) (hput p t t) (take (a) t) (take (b) (get t 0)) (take (c) (tget m t)) (take (d) (hget p t)) (take (e) (call (fn (x) (back x)) a)) (say (join b e (= c a) (= d a)))", 5,
			"(hidden p) (let t (thing (thing 1))) (let m (table)) (tput m t t) (hput p t t) [v0 a: t] [v1 b: (get t 0)] [v2 c: (tget m t)] [v3 d: (hget p t)] [v4 e: (call (fn (x) (back x)) a)] (say (join b e (= c a) (= d a)))", "1111 end"},
		{"(say 1) (take (a) (+ 1 2))", 1, "(say 1) [v0 a: (+ 1 2)]", "1 kind"}, {"(take (a) (- 1 2))", 1, "[v0 a: (- 1 2)]", "kind"}, {"(take (a) (* 1 2))", 1, "[v0 a: (* 1 2)]", "kind"}, {"(take (a) (< 1 2))", 1, "[v0 a: (< 1 2)]", "kind"}, {"(take (a) (= 1 2))", 1, "[v0 a: (= 1 2)]", "kind"}, {"(take (a) (& 1 2))", 1, "[v0 a: (& 1 2)]", "kind"}, {"(take (a) (join 1 2))", 1, "[v0 a: (join 1 2)]", "kind"}, {"(take (a) ' take ')", 1, "[v0 a: ' take ']", "kind"},
	}
}

func takenPlaceCases() []takenCase {
	return []takenCase{
		// In a do, an if, a while, a for.
		{"(do (take (a b) (thing 1 2)) (say (join a b)))", 1, "(do [v0 a b: (thing 1 2)] (say (join a b)))", "12 end"},
		{"(do (do (do (take (a) (thing 1))) (do)))", 1, "(do (do (do [v0 a: (thing 1)]) (do)))", "end"},
		{"(if 1 (do (take (a) (thing 1)) (say a)) (do (take (a) (thing 2)) (say a)))", 2, "(if 1 (do [v0 a: (thing 1)] (say a)) (do [v1 a: (thing 2)] (say a)))", "1 end"},
		{"(if 0 (do (take (a) (thing 1)) (say a)) (do (take (a) (thing 2)) (say a)))", 2, "(if 0 (do [v0 a: (thing 1)] (say a)) (do [v1 a: (thing 2)] (say a)))", "2 end"},
		{"(let n 0) (while (< n 3) (do (take (a b) (thing n (+ n 1))) (set n b) (say (join a b))))", 1, "(let n 0) (while (< n 3) (do [v0 a b: (thing n (+ n 1))] (set n b) (say (join a b))))", "01/12/23 end"},
		{"(let n 0) (while 1 (do (take (a) (thing n)) (set n (+ a 1)) (if (= a 1) (next) (do)) (if (= a 3) (leave) (do)) (say a)))", 1, "(let n 0) (while 1 (do [v0 a: (thing n)] (set n (+ a 1)) (if (= a 1) (next) (do)) (if (= a 3) (leave) (do)) (say a)))", "0/2 end"},
		{"(for i 0 3 (do (take (a b) (thing i (* i i))) (say (join a b))))", 1, "(for i 0 3 (do [v0 a b: (thing i (* i i))] (say (join a b))))", "00/11/24 end"},
		{"(let t (thing)) (for i 0 3 (do (take (a b) (thing i 5)) (put t i (fn () (set a (+ a b)) (back a))))) (say (call (get t 0))) (say (call (get t 0))) (say (call (get t 2)))", 1,
			"(let t (thing)) (for i 0 3 (do [v0 a b: (thing i 5)] (put t i (fn () (set a (+ a b)) (back a))))) (say (call (get t 0))) (say (call (get t 0))) (say (call (get t 2)))", "5/10/7 end"},
		{"(for i 0 3 (do (say a) (take (a) (thing i)) (say a)))", 1, "(for i 0 3 (do (say a) [v0 a: (thing i)] (say a)))", "none/0/none/1/none/2 end"},
		// In a fn: among its deeds, behind a vars, by a NAME of its PARAMs, and left by back.
		{"(say (call (fn (t) (take (a b) t) (back (+ a b))) (thing 3 4)))", 1, "(say (call (fn (t) [v0 a b: t] (back (+ a b))) (thing 3 4)))", "7 end"},
		{"(say (call (fn (t) (vars n) (take (a) t) (set n a) (back n)) (thing 3)))", 1, "(say (call (fn (t) (vars n) [v0 a: t] (set n a) (back n)) (thing 3)))", "3 end"},
		{"(say (call (fn (t) (take (t) (thing 4)) (back t)) (thing 3)))", 1, "(say (call (fn (t) [v0 t: (thing 4)] (back t)) (thing 3)))", "4 end"},
		{"(say (call (fn ((t (thing 1 2))) (take (a b) t) (back (join a b)))))", 1, "(say (call (fn ((t (thing 1 2))) [v0 a b: t] (back (join a b)))))", "12 end"},
		{"(say (call (fn () (back 1) (take (a) 2) (say 'no'))))", 1, "(say (call (fn () (back 1) [v0 a: 2] (say 'no'))))", "1 end"},
		{"(let f (fn (n) (take (a b) (thing n (fn () (back a)))) (if (< n 3) (run (call f (+ n 1))) (do)) (say (call b)))) (run (call f 1))", 1, "(let f (fn (n) [v0 a b: (thing n (fn () (back a)))] (if (< n 3) (run (call f (+ n 1))) (do)) (say (call b)))) (run (call f 1))", "3/2/1 end"},
		{"(vars t) (set t (thing 5)) (take (a) t) (say a)", 1, "(vars t) (set t (thing 5)) [v0 a: t] (say a)", "5 end"},
		{"(hidden a) (let t (thing 5)) (take (a) t) (hput a t 6) (say (join a (hget a t)))", 1, "(hidden a) (let t (thing 5)) [v0 a: t] (hput a t 6) (say (join a (hget a t)))", "56 end"},
		{"(back 5) (take (a) 5)", 1, "(back 5) [v0 a: 5]", "end"},
		// In a fn that stands in each other form that has a sum.
		{"(let f (fn () (take (a) (thing 1)) (back a))) (set f f) (say (call f)) (run (fn () (take (a) 1))) (put (thing) 0 (fn () (take (a) 2))) (tput (table) (thing) (fn () (take (a) 3))) (if (= 1 (fn () (take (a) 4))) (do) (do)) (back (fn () (take (a) 5)))", 6,
			"(let f (fn () [v0 a: (thing 1)] (back a))) (set f f) (say (call f)) (run (fn () [v1 a: 1])) (put (thing) 0 (fn () [v2 a: 2])) (tput (table) (thing) (fn () [v3 a: 3])) (if (= 1 (fn () [v4 a: 4])) (do) (do)) (back (fn () [v5 a: 5]))", "1 end"},
		{"(while (call (fn () (take (a b) (thing 1 0)) (back b))) (say 'no')) (for i (call (fn () (take (a) (thing 1)) (back a))) (call (fn () (take (a) (thing 3)) (back a))) (say i))", 3,
			"(while (call (fn () [v0 a b: (thing 1 0)] (back b))) (say 'no')) (for i (call (fn () [v1 a: (thing 1)] (back a))) (call (fn () [v2 a: (thing 3)] (back a))) (say i))", "1/2 end"},
		{"(say (join (call (fn ((x (call (fn () (take (a) (thing 4)) (back a))))) (back x))) (call (fn () (take (b) (thing 5)) (back b)))))", 2, "(say (join (call (fn ((x (call (fn () [v0 a: (thing 4)] (back a))))) (back x))) (call (fn () [v1 b: (thing 5)] (back b)))))", "45 end"},
		{"(hidden p) (let t (thing)) (hput p t (fn () (take (a) (thing 6)) (back a))) (say (call (hget p t)))", 1, "(hidden p) (let t (thing)) (hput p t (fn () [v0 a: (thing 6)] (back a))) (say (call (hget p t)))", "6 end"},
	}
}

// Who has which fresh name.
func takenFreshCases() []takenCase {
	return []takenCase{
		// Beside each other.
		{"(take (a) (thing 1)) (take (b) (thing 2)) (take (c) (thing 3)) (say (join a b c))", 3, "[v0 a: (thing 1)] [v1 b: (thing 2)] [v2 c: (thing 3)] (say (join a b c))", "123 end"},
		{"(take (a) (thing 1)) (do (take (a) (thing 2)) (say a)) (do (take (a) (thing 3)) (say a)) (say a)", 3, "[v0 a: (thing 1)] (do [v1 a: (thing 2)] (say a)) (do [v2 a: (thing 3)] (say a)) (say a)", "2/3/1 end"},
		{"(do (take (a) (thing 1)) (do (take (b) (thing 2)) (say (join a b)))) (take (c) (thing 3)) (say c)", 3, "(do [v0 a: (thing 1)] (do [v1 b: (thing 2)] (say (join a b)))) [v2 c: (thing 3)] (say c)", "12/3 end"},
		// One that begins within the SUM of the other; and one behind both.
		{"(take (a) (thing (call (fn () (take (b) (thing 1)) (back b))))) (say a)", 2, "(let v0 (thing (call (fn () (let v1 (thing 1)) (let b (get v1 0)) (back b))))) (let a (get v0 0)) (say a)", "1 end"},
		{"(take (a) (call (fn () (take (a b) (thing 1 2)) (back (thing b a))))) (take (c) (thing a)) (say c)", 3, "[v0 a: (call (fn () [v1 a b: (thing 1 2)] (back (thing b a))))] [v2 c: (thing a)] (say c)", "2 end"},
		{"(take (a) (thing (call (fn () (take (b) (thing (call (fn () (take (c) (thing 7)) (back c))))) (back (+ b 1)))))) (say a)", 3, "[v0 a: (thing (call (fn () [v1 b: (thing (call (fn () [v2 c: (thing 7)] (back c))))] (back (+ b 1)))))] (say a)", "8 end"},
		{"(take (a b) (thing (call (fn () (take (x) (thing 1)) (take (y) (thing 2)) (back (+ x y)))) (call (fn () (take (z) (thing 4)) (back z))))) (take (c) (thing 5)) (say (join a b c))", 5,
			"[v0 a b: (thing (call (fn () [v1 x: (thing 1)] [v2 y: (thing 2)] (back (+ x y)))) (call (fn () [v3 z: (thing 4)] (back z))))] [v4 c: (thing 5)] (say (join a b c))", "345 end"},
		{"(take (f) (thing (fn (n) (take (g) (thing (fn (m) (take (h) (thing (+ n m))) (back h)))) (back g)))) (say (call (call f 1) 2))", 3, "[v0 f: (thing (fn (n) [v1 g: (thing (fn (m) [v2 h: (thing (+ n m))] (back h)))] (back g)))] (say (call (call f 1) 2))", "3 end"},
		// Some of the first ones are names of its own, be they declared, taken, given, of a for, hidden.
		{"(let v0 5) (do (take (c) v0) (say c))", 1, "(let v0 5) (do (let v1 v0) (let c (get v1 0)) (say c))", "kind"},
		{"(let v0 (thing 5)) (take (v1) v0) (take (v3) (thing v1)) (say v3)", 2, "(let v0 (thing 5)) [v2 v1: v0] [v4 v3: (thing v1)] (say v3)", "5 end"},
		{"(take (v0) (thing 5)) (say v0)", 1, "(let v1 (thing 5)) (let v0 (get v1 0)) (say v0)", "5 end"},
		{"(take (v1 v0) (thing 5 6)) (say v0)", 1, "[v2 v1 v0: (thing 5 6)] (say v0)", "6 end"},
		{"(take (a) (thing 5)) (say (call (fn (v0 (v2 a)) (back (+ v0 v2))) a))", 1, "[v1 a: (thing 5)] (say (call (fn (v0 (v2 a)) (back (+ v0 v2))) a))", "10 end"},
		{"(take (a) (thing 2)) (for v0 0 a (do (hidden v1) (take (b) (thing v0)) (say b)))", 2, "[v2 a: (thing 2)] (for v0 0 a (do (hidden v1) [v3 b: (thing v0)] (say b)))", "0/1 end"},
		{"(run (fn () (vars v0 v1 v3) (set v0 1))) (take (a) (thing 1)) (take (b) (thing 2)) (take (c) (thing 3)) (say (join a b c))", 3, "(run (fn () (vars v0 v1 v3) (set v0 1))) [v2 a: (thing 1)] [v4 b: (thing 2)] [v5 c: (thing 3)] (say (join a b c))", "123 end"},
		{"(take (a) (thing 1)) (take (b) (thing 2)) (do (let v1 a) (say (+ v1 b)))", 2, "[v0 a: (thing 1)] [v2 b: (thing 2)] (do (let v1 a) (say (+ v1 b)))", "3 end"},
		{"(let v 1) (let v00 2) (let v01 3) (let v0a 4) (let w0 5) (let v10 6) (say 'v0') (take (a) (thing v)) (say (& a 'v1'))", 1, "(let v 1) (let v00 2) (let v01 3) (let v0a 4) (let w0 5) (let v10 6) (say 'v0') [v0 a: (thing v)] (say (& a 'v1'))", "v0/1v1 end"},
		{"(let v0 0) (let v1 1) (let v2 2) (let v3 3) (let v4 4) (let v5 5) (let v6 6) (let v7 7) (let v8 8) (let v9 9) (take (a) (thing v9)) (take (b) (thing a)) (say (join a b))", 2,
			"(let v0 0) (let v1 1) (let v2 2) (let v3 3) (let v4 4) (let v5 5) (let v6 6) (let v7 7) (let v8 8) (let v9 9) [v10 a: (thing v9)] [v11 b: (thing a)] (say (join a b))", "99 end"},
	}
}

func takenCases() []takenCase {
	return slices.Concat(pieceCases(), takenSumCases(), takenPlaceCases(), takenFreshCases())
}

// nothingTaken are pages that are Scoped and have no take.
func nothingTaken() []string {
	return slices.Concat(oldTongue(), []string{
		"(let a 1)", "(let taken 1) (say taken)", "(let take0 (thing 1 2)) (say (get take0 1))", "(say 'take')", "(say ' take a 1')", "(say (& ' take ' 'take'))", "(let v0 (thing 1 2)) (let a (get v0 0)) (let b (get v0 1)) (say (join a b))", "(run (fn ((x 1)) (back x)))",
		"(for i 0 3 (say i))", "(hidden p) (let t (thing)) (hput p t 1) (say (hget p t))", "(let f (fn (t (u (get t 0))) (back u))) (say (call f (thing 4)))", "(while 1 (do (let a (fn (b) (say b))) (leave)))", "(say (join 1 2 3))", "(do (let v0 1) (let v1 2))",
	})
}
