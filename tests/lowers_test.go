package tests

import (
	"slices"
	"strings"

	"loop.example/g00544/impl"
)

// The document's words about what is said again, as they stand there: the tests
// hold the program against these. The program gives up by an error; this asks the
// slow readings of the ways, and goes on wherever something has been said.

const passCount = 7

// A sayer is a way to say a play again.
type sayer func(l []string) []string

func programPasses() [passCount]sayer {
	return [passCount]sayer{impl.Given, impl.Taken, impl.Unjoined, impl.Bared, impl.Turned, impl.Wrapped, impl.Lifted}
}

func slowPasses() [passCount]sayer {
	return [passCount]sayer{
		func(l []string) []string { return givenSlowly(l).said },
		func(l []string) []string { return takenSlowly(l).said },
		func(l []string) []string { return unjoinedSlowly(l).said },
		func(l []string) []string { return baredSlowly(l).said },
		func(l []string) []string { return turnedSlowly(l).said },
		func(l []string) []string { return wrappedSlowly(l).said },
		func(l []string) []string { return liftedSlowly(l).said },
	}
}

// goneBehind are the new words that there are no more when so many ways have said
// it again: those of the last one of these.
func goneBehind(n int) []string {
	return strings.Fields([passCount + 1]string{"", "given", "take", "join", "hidden hget hput", "for", "", "let"}[n])
}

// A lowerAnswers is what the functions of the chapter answer of one list: Passes
// with each n from 0 to 7.
type lowerAnswers struct {
	passes  [passCount + 1][]string
	lowered []string
	growth  int64
}

// lowerSlowly has each of them from what the ones ahead of it say; an empty list
// stands for nothing, and nothing more is said of it.
func lowerSlowly(l []string) lowerAnswers {
	out := lowerAnswers{growth: -1}
	if scopeSlowly(l).scoped {
		out.passes[0] = slices.Clone(l)
	}
	for n, again := range slowPasses() {
		if ahead := out.passes[n]; len(ahead) > 0 {
			out.passes[n+1] = again(ahead)
		}
	}
	out.lowered = out.passes[passCount]
	if len(l) == 0 || len(out.lowered) > 0 {
		out.growth = int64(len(out.lowered) - len(l))
	}
	return out
}

// A saidPass is what a page has become when so many ways have said it again.
type saidPass struct {
	n    int
	page string
}

// A lowerCase is a page, what it becomes by those ways that make something else of
// it, how many signs it has more in the end, and what each of them says. It is
// written as the ways ahead write it: [F: DEEDS] for a do that is wrapped, X? Y;
// for what is given.
type lowerCase struct {
	page   string
	again  []saidPass
	growth int64
	words  string
}

// passPages are the page as it is after each number of ways.
func (c lowerCase) passPages() [passCount + 1]string {
	out := [passCount + 1]string{c.page}
	for n := range passCount {
		out[n+1] = out[n]
		for _, s := range c.again {
			if s.n == n+1 {
				out[n+1] = againPage(wrapsPage(s.page))
			}
		}
	}
	return out
}

// Each new word alone, and where it is twice.
func lowerAloneCases() []lowerCase {
	return []lowerCase{
		// given
		{"(run (fn ((x 1))))", []saidPass{{1, "(run (fn (x) (if (= x none) (set x 1) (do)) (do)))"}}, 16, "end"},
		{"(say (call (fn (a (b (+ a 1))) (back (* a b))) 4))", []saidPass{{1, "(say (call (fn (a b) b? (+ a 1); (do (back (* a b)))) 4))"}}, 16, "20 end"},
		{"(say (call (fn ((a 2) (b a)) (back (- 9 b)))))", []saidPass{{1, "(say (call (fn (a b) a? 2; b? a; (do (back (- 9 b))))))"}}, 29, "7 end"},
		// take
		{"(take (a b) (thing 3 4)) (say (- a b))", []saidPass{
			{2, "(let v0 (thing 3 4)) (let a (get v0 0)) (let b (get v0 1)) (say (- a b))"},
			{7, "(vars v1 v2 v3) (set v1 (thing 3 4)) (set v2 (get v1 0)) (set v3 (get v1 1)) (say (- v2 v3))"}}, 21, "-1 end"},
		{"(run (call (fn (t) (take (a) t) (do (take (b c) t) (say (& a (& b c))))) (thing 3 4)))", []saidPass{
			{2, "(run (call (fn (t) (let v0 t) (let a (get v0 0)) (do (let v1 t) (let b (get v1 0)) (let c (get v1 1)) (say (& a (& b c))))) (thing 3 4)))"},
			{7, "(run (call (fn (t) (vars v2 v3 v4 v5 v6) (set v2 t) (set v3 (get v2 0)) (do (set v4 none) (set v5 none) (set v6 none) (set v4 t) (set v5 (get v4 0)) (set v6 (get v4 1)) (say (& v3 (& v5 v6))))) (thing 3 4)))"}}, 45, "334 end"},
		// join
		{"(say (join 1 'x' none))", []saidPass{{3, "(say (& (& (& '' 1) 'x') none))"}}, 7, "1xnone end"},
		{"(say (join 'a' (join 'b' 'c')))", []saidPass{{3, "(say (& (& '' 'a') (& (& '' 'b') 'c')))"}}, 8, "abc end"},
		{"(say (join 5))", []saidPass{{3, "(say (& '' 5))"}}, 1, "5 end"},
		{"(say (join))", []saidPass{{3, "(say '')"}}, -2, " end"},
		{"(say (= (join) (join)))", []saidPass{{3, "(say (= '' ''))"}}, -4, "1 end"},
		// hidden, hget and hput
		{"(hidden p)", []saidPass{{4, "(let v0 (table))"}, {7, "(vars v1) (set v1 (table))"}}, 7, "end"},
		{"(vars t) (set t (thing)) (hidden p) (hput p t 5) (say (hget p t))", []saidPass{
			{4, "(vars t) (let v0 (table)) (set t (thing)) (tput v0 t 5) (say (tget v0 t))"},
			{7, "(vars t v1) (set v1 (table)) (set t (thing)) (tput v1 t 5) (say (tget v1 t))"}}, 4, "5 end"},
		{"(vars t) (set t (thing)) (hput p t 5) (do (hidden p) (hput p t 6) (say (hget p t))) (say (hget p t)) (hidden q p)", []saidPass{
			{4, "(vars t) (let v1 (table)) (let v2 (table)) (set t (thing)) (tput v2 t 5) (do (let v0 (table)) (tput v0 t 6) (say (tget v0 t))) (say (tget v2 t))"},
			{7, "(vars t v3 v4 v5) (set v3 (table)) (set v4 (table)) (set t (thing)) (tput v4 t 5) (do (set v5 none) (set v5 (table)) (tput v5 t 6) (say (tget v5 t))) (say (tget v4 t))"}}, 20, "6/5 end"},
		{"(say 1) (hidden)", []saidPass{{4, "(say 1)"}}, -3, "1 end"},
		{"(do (hidden) (hidden))", []saidPass{{4, "(do)"}}, -6, "end"},
		// for
		{"(for i 0 2 (say i))", []saidPass{
			{5, "(do (let v0 0) (let v1 2) (while (< v0 v1) (do (let i v0) (set v0 (+ v0 1)) (say i))))"},
			{7, "(vars v2 v3 v4) (do (set v2 none) (set v3 none) (set v2 0) (set v3 2) (while (< v2 v3) (do (set v4 none) (set v4 v2) (set v2 (+ v2 1)) (say v4))))"}}, 53, "0/1 end"},
		{"(run (call (fn (n) (for i 1 n (for j i n (say (& i j))))) 3))", []saidPass{
			{5, "(run (call (fn (n) (do (let v0 1) (let v1 n) (while (< v0 v1) (do (let i v0) (set v0 (+ v0 1)) (do (let v2 i) (let v3 n) (while (< v2 v3) (do (let j v2) (set v2 (+ v2 1)) (say (& i j)))))))) ) 3))"},
			{7, "(run (call (fn (n) (vars v4 v5 v6 v7 v8 v9) (do (set v4 none) (set v5 none) (set v4 1) (set v5 n) (while (< v4 v5) (do (set v6 none) (set v6 v4) (set v4 (+ v4 1)) (do (set v7 none) (set v8 none) (set v7 v6) (set v8 n) (while (< v7 v8) (do (set v9 none) (set v9 v7) (set v7 (+ v7 1)) (say (& v6 v9)))))))) ) 3))"}}, 103, "11/12/22 end"},
		// let
		{"(let a 1) (say a)", []saidPass{{7, "(vars v0) (set v0 1) (say v0)"}}, 4, "1 end"},
		{"(let a 1) (do (let a 2) (say a)) (say (call (fn (x) (let b x) (back b)) a))", []saidPass{{7, "(vars v0 v1) (set v0 1) (do (set v1 none) (set v1 2) (say v1)) (say (call (fn (x) (vars v2) (set v2 x) (back v2)) v0))"}}, 14, "2/1 end"},
		{"(vars f) (do (let a 1) (set f (fn () (back a)))) (say (call f))", []saidPass{{7, "(vars f v0) (do (set v0 none) (set v0 1) (set f (fn () (back v0)))) (say (call f))"}}, 6, "1 end"},
		// A do that is kept in a loop: by a let, and by a take.
		{"(vars f n) (set n 0) (while (< n 2) (do (let k n) (set n (+ n 1)) (if k (do) (set f (fn () (back k)))))) (say (call f))", []saidPass{
			{6, "(vars f n) (set n 0) (while (< n 2) [v0: (let k n) (set n (+ n 1)) (if k (do) (set f (fn () (back k))))]) (say (call f))"},
			{7, "(vars f n v1) (set n 0) (while (< n 2) (do (set v1 none) (set v1 (call (fn () (vars v2) (set v2 n) (set n (+ n 1)) (if v2 (do) (set f (fn () (back v2))))))) (if (= v1 none) (do) (if (= (get v1 0) 1) (back (get v1 1)) (if (= (get v1 0) 2) (leave) (next)))))) (say (call f))"}}, 71, "0 end"},
		{"(vars f n) (set n 0) (while (< n 2) (do (take (k) (thing n)) (set n (+ n 1)) (if k (do) (set f (fn () (back k)))))) (say (call f))", []saidPass{
			{2, "(vars f n) (set n 0) (while (< n 2) (do (let v0 (thing n)) (let k (get v0 0)) (set n (+ n 1)) (if k (do) (set f (fn () (back k)))))) (say (call f))"},
			{6, "(vars f n) (set n 0) (while (< n 2) [v1: (let v0 (thing n)) (let k (get v0 0)) (set n (+ n 1)) (if k (do) (set f (fn () (back k))))]) (say (call f))"},
			{7, "(vars f n v2) (set n 0) (while (< n 2) (do (set v2 none) (set v2 (call (fn () (vars v3 v4) (set v3 (thing n)) (set v4 (get v3 0)) (set n (+ n 1)) (if v4 (do) (set f (fn () (back v4))))))) (if (= v2 none) (do) (if (= (get v2 0) 1) (back (get v2 1)) (if (= (get v2 0) 2) (leave) (next)))))) (say (call f))"}}, 79, "0 end"},
	}
}

// Several new words in one play, what the one becomes said again by another.
func lowerTogetherCases() []lowerCase {
	return []lowerCase{
		{"(for i 0 2 (say (join i)))", []saidPass{
			{3, "(for i 0 2 (say (& '' i)))"},
			{5, "(do (let v0 0) (let v1 2) (while (< v0 v1) (do (let i v0) (set v0 (+ v0 1)) (say (& '' i)))))"},
			{7, "(vars v2 v3 v4) (do (set v2 none) (set v3 none) (set v2 0) (set v3 2) (while (< v2 v3) (do (set v4 none) (set v4 v2) (set v2 (+ v2 1)) (say (& '' v4)))))"}}, 54, "0/1 end"},
		// A for's own NAME is kept, as soon as it is a do.
		{"(vars f) (for i 0 2 (if i (do) (set f (fn () (back i))))) (say (call f))", []saidPass{
			{5, "(vars f) (do (let v0 0) (let v1 2) (while (< v0 v1) (do (let i v0) (set v0 (+ v0 1)) (if i (do) (set f (fn () (back i))))))) (say (call f))"},
			{6, "(vars f) (do (let v0 0) (let v1 2) (while (< v0 v1) [v2: (let i v0) (set v0 (+ v0 1)) (if i (do) (set f (fn () (back i))))])) (say (call f))"},
			{7, "(vars f v3 v4 v5) (do (set v3 none) (set v4 none) (set v3 0) (set v4 2) (while (< v3 v4) (do (set v5 none) (set v5 (call (fn () (vars v6) (set v6 v3) (set v3 (+ v3 1)) (if v6 (do) (set f (fn () (back v6))))))) (if (= v5 none) (do) (if (= (get v5 0) 1) (back (get v5 1)) (if (= (get v5 0) 2) (leave) (next))))))) (say (call f))"}}, 115, "0 end"},
		// A table of a turn is kept, as soon as it is a let.
		{"(let t (thing)) (let g none) (for i 0 2 (do (hidden p) (hput p t i) (if i (do) (set g (fn () (back (hget p t))))))) (say (call g))", []saidPass{
			{4, "(let t (thing)) (let g none) (for i 0 2 (do (let v0 (table)) (tput v0 t i) (if i (do) (set g (fn () (back (tget v0 t))))))) (say (call g))"},
			{5, "(let t (thing)) (let g none) (do (let v1 0) (let v2 2) (while (< v1 v2) (do (let i v1) (set v1 (+ v1 1)) (do (let v0 (table)) (tput v0 t i) (if i (do) (set g (fn () (back (tget v0 t))))))))) (say (call g))"},
			{6, "(let t (thing)) (let g none) (do (let v1 0) (let v2 2) (while (< v1 v2) [v3: (let i v1) (set v1 (+ v1 1)) (do (let v0 (table)) (tput v0 t i) (if i (do) (set g (fn () (back (tget v0 t))))))])) (say (call g))"},
			{7, "(vars v4 v5 v6 v7 v8) (set v4 (thing)) (set v5 none) (do (set v6 none) (set v7 none) (set v6 0) (set v7 2) (while (< v6 v7) (do (set v8 none) (set v8 (call (fn () (vars v9 v10) (set v9 v6) (set v6 (+ v6 1)) (do (set v10 none) (set v10 (table)) (tput v10 v4 v9) (if v9 (do) (set v5 (fn () (back (tget v10 v4))))))))) (if (= v8 none) (do) (if (= (get v8 0) 1) (back (get v8 1)) (if (= (get v8 0) 2) (leave) (next))))))) (say (call v5))"}}, 129, "0 end"},
		// A way out of a do that is kept, out of a fn.
		{"(let f (fn (n) (for i 0 9 (do (let k i) (let h (fn () (back k))) (if (= (call h) n) (back (join 'b' k)) (do)))))) (say (call f 2)) (say (call f 9))", []saidPass{
			{3, "(let f (fn (n) (for i 0 9 (do (let k i) (let h (fn () (back k))) (if (= (call h) n) (back (& (& '' 'b') k)) (do)))))) (say (call f 2)) (say (call f 9))"},
			{5, "(let f (fn (n) (do (let v0 0) (let v1 9) (while (< v0 v1) (do (let i v0) (set v0 (+ v0 1)) (do (let k i) (let h (fn () (back k))) (if (= (call h) n) (back (& (& '' 'b') k)) (do)))))))) (say (call f 2)) (say (call f 9))"},
			{6, "(let f (fn (n) (do (let v0 0) (let v1 9) (while (< v0 v1) [v2: (let i v0) (set v0 (+ v0 1)) (do (let k i) (let h (fn () (back k))) (if (= (call h) n) (back (thing 1 (& (& '' 'b') k))) (do)))])))) (say (call f 2)) (say (call f 9))"},
			{7, "(vars v3) (set v3 (fn (n) (vars v4 v5 v6) (do (set v4 none) (set v5 none) (set v4 0) (set v5 9) (while (< v4 v5) (do (set v6 none) (set v6 (call (fn () (vars v7 v8 v9) (set v7 v4) (set v4 (+ v4 1)) (do (set v8 none) (set v9 none) (set v8 v7) (set v9 (fn () (back v8))) (if (= (call v9) n) (back (thing 1 (& (& '' 'b') v8))) (do)))))) (if (= v6 none) (do) (if (= (get v6 0) 1) (back (get v6 1)) (if (= (get v6 0) 2) (leave) (next))))))))) (say (call v3 2)) (say (call v3 9))"}}, 142, "b2/none end"},
		// All at once.
		{"(hidden p) (let t (thing)) (take (a b) (thing 1 2)) (let f (fn (x (y (join a b x))) (hput p t y) (back (hget p t)))) (let g none) (for i 0 3 (do (let w (call f i)) (if (= i 1) (set g (fn () (back w))) (do)) (say w))) (say (call g))", []saidPass{
			{1, "(hidden p) (let t (thing)) (take (a b) (thing 1 2)) (let f (fn (x y) y? (join a b x); (do (hput p t y) (back (hget p t))))) (let g none) (for i 0 3 (do (let w (call f i)) (if (= i 1) (set g (fn () (back w))) (do)) (say w))) (say (call g))"},
			{2, "(hidden p) (let t (thing)) (let v0 (thing 1 2)) (let a (get v0 0)) (let b (get v0 1)) (let f (fn (x y) y? (join a b x); (do (hput p t y) (back (hget p t))))) (let g none) (for i 0 3 (do (let w (call f i)) (if (= i 1) (set g (fn () (back w))) (do)) (say w))) (say (call g))"},
			{3, "(hidden p) (let t (thing)) (let v0 (thing 1 2)) (let a (get v0 0)) (let b (get v0 1)) (let f (fn (x y) y? (& (& (& '' a) b) x); (do (hput p t y) (back (hget p t))))) (let g none) (for i 0 3 (do (let w (call f i)) (if (= i 1) (set g (fn () (back w))) (do)) (say w))) (say (call g))"},
			{4, "(let v1 (table)) (let t (thing)) (let v0 (thing 1 2)) (let a (get v0 0)) (let b (get v0 1)) (let f (fn (x y) y? (& (& (& '' a) b) x); (do (tput v1 t y) (back (tget v1 t))))) (let g none) (for i 0 3 (do (let w (call f i)) (if (= i 1) (set g (fn () (back w))) (do)) (say w))) (say (call g))"},
			{5, "(let v1 (table)) (let t (thing)) (let v0 (thing 1 2)) (let a (get v0 0)) (let b (get v0 1)) (let f (fn (x y) y? (& (& (& '' a) b) x); (do (tput v1 t y) (back (tget v1 t))))) (let g none) (do (let v2 0) (let v3 3) (while (< v2 v3) (do (let i v2) (set v2 (+ v2 1)) (do (let w (call f i)) (if (= i 1) (set g (fn () (back w))) (do)) (say w))))) (say (call g))"},
			{6, "(let v1 (table)) (let t (thing)) (let v0 (thing 1 2)) (let a (get v0 0)) (let b (get v0 1)) (let f (fn (x y) y? (& (& (& '' a) b) x); (do (tput v1 t y) (back (tget v1 t))))) (let g none) (do (let v2 0) (let v3 3) (while (< v2 v3) [v4: (let i v2) (set v2 (+ v2 1)) (do (let w (call f i)) (if (= i 1) (set g (fn () (back w))) (do)) (say w))])) (say (call g))"},
			{7, "(vars v5 v6 v7 v8 v9 v10 v11 v12 v13 v14) (set v5 (table)) (set v6 (thing)) (set v7 (thing 1 2)) (set v8 (get v7 0)) (set v9 (get v7 1)) (set v10 (fn (x y) y? (& (& (& '' v8) v9) x); (do (tput v5 v6 y) (back (tget v5 v6))))) (set v11 none) (do (set v12 none) (set v13 none) (set v12 0) (set v13 3) (while (< v12 v13) (do (set v14 none) (set v14 (call (fn () (vars v15 v16) (set v15 v12) (set v12 (+ v12 1)) (do (set v16 none) (set v16 (call v10 v15)) (if (= v15 1) (set v11 (fn () (back v16))) (do)) (say v16))))) (if (= v14 none) (do) (if (= (get v14 0) 1) (back (get v14 1)) (if (= (get v14 0) 2) (leave) (next))))))) (say (call v11))"}}, 172, "120/121/122/121 end"},
		// Fresh names' own texts: each way goes on behind those that it finds.
		{"(vars v1) (take (v0) (thing 6)) (hidden v2) (set v1 (thing)) (hput v2 v1 v0) (say (hget v2 v1))", []saidPass{
			{2, "(vars v1) (let v3 (thing 6)) (let v0 (get v3 0)) (hidden v2) (set v1 (thing)) (hput v2 v1 v0) (say (hget v2 v1))"},
			{4, "(vars v1) (let v4 (table)) (let v3 (thing 6)) (let v0 (get v3 0)) (set v1 (thing)) (tput v4 v1 v0) (say (tget v4 v1))"},
			{7, "(vars v1 v2 v5 v6) (set v2 (table)) (set v5 (thing 6)) (set v6 (get v5 0)) (set v1 (thing)) (tput v2 v1 v6) (say (tget v2 v1))"}}, 13, "6 end"},
	}
}

// Growth that is -1 though something is said, and how faults end a play.
func lowerOtherCases() []lowerCase {
	return []lowerCase{
		{"(say (join)) (say (join 1))", []saidPass{{3, "(say '') (say (& '' 1))"}}, -1, "/1 end"},
		{"(say (join 1)) (hidden) (say (join 2))", []saidPass{{3, "(say (& '' 1)) (hidden) (say (& '' 2))"}, {4, "(say (& '' 1)) (say (& '' 2))"}}, -1, "1/2 end"},
		{"(say (join)) (say (join 1)) (say (join 2))", []saidPass{{3, "(say '') (say (& '' 1)) (say (& '' 2))"}}, 0, "/1/2 end"},
		{"(say 1) (take (a) 5) (say a)", []saidPass{{2, "(say 1) (let v0 5) (let a (get v0 0)) (say a)"}, {7, "(vars v1 v2) (say 1) (set v1 5) (set v2 (get v1 0)) (say v2)"}}, 12, "1 kind"},
		{"(say (join 'a' (thing)))", []saidPass{{3, "(say (& (& '' 'a') (thing)))"}}, 4, "kind"},
		{"(hidden p) (say 1) (say (hget p (thing)))", []saidPass{{4, "(let v0 (table)) (say 1) (say (tget v0 (thing)))"}, {7, "(vars v1) (set v1 (table)) (say 1) (say (tget v1 (thing)))"}}, 7, "1 key"},
		{"(let a " + over + ") (say a)", []saidPass{{7, "(vars v0) (set v0 " + over + ") (say v0)"}}, 4, "over"},
		{"(say 1) (let a 1) (while 1 (do))", []saidPass{{7, "(vars v0) (say 1) (set v0 1) (while 1 (do))"}}, 4, "1 fuel"},
		{"(let f (fn ((x 1)) (back (call f x)))) (say 2) (say (call f))", []saidPass{{1, "(let f (fn (x) x? 1; (do (back (call f x))))) (say 2) (say (call f))"}, {7, "(vars v0) (set v0 (fn (x) x? 1; (do (back (call v0 x))))) (say 2) (say (call v0))"}}, 20, "2 many"},
	}
}

func lowerCases() []lowerCase {
	return slices.Concat(lowerAloneCases(), lowerTogetherCases(), lowerOtherCases())
}

// A newThing is a new word (or a do that is kept, told as kept) in a deed that says
// something of it, with HERE a deed within it. Who is used in it is declared in it,
// but for t, which is a thing.
type newThing struct{ word, page string }

func newThings() []newThing {
	return []newThing{
		{"given", "(say (call (fn (a (b (+ a 1))) HERE (back (& a b))) 3))"},
		{"given", "(say (call (fn ((b (call (fn (c) HERE (back c)) 4)) (d b)) (back (& b d)))))"},
		{"take", "(do (take (a b) t) HERE (say (& a b)))"},
		{"take", "(do (take (a) (thing (call (fn () HERE (back 5))))) (say a))"},
		{"join", "(say (join 'j' (call (fn () HERE (back 1))) none))"},
		{"hidden", "(do (hput p t 'h') HERE (say (hget p t)) (hidden p))"},
		{"hidden", "(do (hidden p) (hput p (call (fn () HERE (back t))) 2) (say (hget p t)))"},
		{"for", "(for i 0 2 (do (say i) HERE))"},
		{"for", "(for i (call (fn () HERE (back 0))) 2 (say i))"},
		{"kept", "(run (call (fn (n f) (while (< n 2) (do (let k n) (set n (+ n 1)) (if k (do) (set f (fn () (set k (+ k 5)) (back k)))) HERE (say k))) (say (call f))) 0))"},
		{"kept", "(run (call (fn (f) (for i 0 2 (do (take (k) (thing i)) (if i (do) (set f (fn () HERE (back k)))))) (say (call f)))))"},
		{"let", "(do (say (= l none)) (let l 4) HERE (say l))"},
		{"let", "(do (let l (call (fn () HERE (back 6)))) (say l))"},
	}
}

func (n newThing) with(deed string) string { return strings.ReplaceAll(n.page, "HERE", deed) }

// thingsAhead declares all who may be used in a newThing's HERE, whatever is around.
const thingsAhead = "(vars t a b c d i k l n) (set t (thing 7 8)) (set i 3) (set n 1) (set k 2) "

// thingsInside are deeds for the HERE of a newThing.
func thingsInside() []string {
	return []string{
		"(say 'in')", "(say (join a '-' b '-' i '-' k '-' l '-' n))", "(do (set a 9) (set k 5) (set l 3))", "(back 3)", "(if (= i 1) (back none) (do))", "(if (= k 0) (leave) (do))", "(next)", "(do (let a (join i k)) (say a) (take (k) t) (say k))",
		"(say (+ 1 none))", "(if (= i 1) (say " + over + ") (do))", "(run (tget (table) t))", "(say t)",
	}
}
