package tests

import (
	"fmt"
	"go/ast"
	"math"
	"slices"
	"strings"
	"testing"

	"loop.example/g00544/impl"
)

func TestPlayLimits(t *testing.T) {
	if impl.MaxFuel != 20000 || impl.MaxCalls != 40 || impl.MaxSaid != 200 || impl.MaxFuncs != 1000 {
		t.Errorf("%d %d %d %d", impl.MaxFuel, impl.MaxCalls, impl.MaxSaid, impl.MaxFuncs)
	}
}

// checkShow holds the program against the slow reading, and tells what it shows.
func checkShow(t *testing.T, l []string, fuel int64) impl.Show {
	t.Helper()
	got := impl.Played(l, fuel)
	if want := playedSlowly(l, fuel); !sameShow(got, want) {
		t.Errorf("%s with fuel %d: %s; read slowly %s", shortPlay(l), fuel, showShow(got), showShow(want))
	}
	return got
}

func shortPlay(l []string) string {
	if page := impl.ShowSigns(l); page != "" && len(page) < 700 {
		return page
	}
	return shortList(l)
}

// A playCase is a page with what is said, how it ends, and how many Steps there
// are.
type playCase struct {
	page  string
	words string
	steps int64
}

// checkPlays asks with much fuel, with just as much as there are Steps, and with
// one less.
func checkPlays(t *testing.T, cases []playCase) {
	t.Helper()
	for _, c := range cases {
		l := signsOf(t, c.page)
		got := checkShow(t, l, impl.MaxFuel)
		if words := impl.Words(got); words != c.words || got.Steps != c.steps {
			t.Errorf("%s: %q, %d steps; want %q, %d", shortPlay(l), words, got.Steps, c.words, c.steps)
		}
		if just := checkShow(t, l, c.steps); !sameShow(just, got) {
			t.Errorf("%s with fuel %d: %s", shortPlay(l), c.steps, showShow(just))
		}
		if c.steps == 0 {
			continue
		}
		if less := checkShow(t, l, c.steps-1); less.Fault != impl.FtFuel || less.Steps != c.steps-1 {
			t.Errorf("%s with fuel %d: %s", shortPlay(l), c.steps-1, showShow(less))
		}
	}
}

func signCases() []playCase {
	return []playCase{
		{"", "end", 0}, {"(say 5)", "5 end", 2}, {"(say -5)", "-5 end", 2}, {"(say 0)", "0 end", 2}, {"(say 'a b')", "a b end", 2}, {"(say '5')", "5 end", 2}, {"(say none)", "none end", 2}, {"(say '')", " end", 2}, {"(say '') (say '')", "/ end", 4},
		// A NAME ahead of its let, in it, and behind it.
		{"(say a) (let a 1) (say a)", "none/1 end", 6}, {"(let a a) (say a)", "none end", 4}, {"(let a (join a 1)) (say a)", "none1 end", 6}, {"(vars a) (say a) (set a 2) (say a)", "none/2 end", 7}, {"(set a 1) (say a) (let a 2) (say a)", "1/2 end", 8},
		{"(let f (fn () (back a))) (say (call f)) (let a 1) (say (call f))", "none/1 end", 14}, {"(take (a b) (thing 1 b)) (say a) (say b)", "1/none end", 8}, {"(say b) (take (a b) (thing 1 2)) (say b)", "none/2 end", 8},
		{"(vars)", "end", 1}, {"(vars a b)", "end", 1}, {"(hidden)", "end", 1}, {"(hidden p q)", "end", 1},
	}
}

func markCases() []playCase {
	return []playCase{
		{"(say (+ 2 3))", "5 end", 4}, {"(say (- 2 3))", "-1 end", 4}, {"(say (* 4 -3))", "-12 end", 4}, {"(say (+ 999999998 1))", "999999999 end", 4}, {"(say (- -999999998 1))", "-999999999 end", 4}, {"(say (* 31622 31622))", "999950884 end", 4},
		{"(say (< 1 2))", "1 end", 4}, {"(say (< 2 2))", "0 end", 4}, {"(say (< 3 2))", "0 end", 4}, {"(say (< -3 -2))", "1 end", 4},
		{"(say (= 1 1))", "1 end", 4}, {"(say (= 1 2))", "0 end", 4}, {"(say (= 1 '1'))", "0 end", 4}, {"(say (= 'a' 'a'))", "1 end", 4}, {"(say (= none none))", "1 end", 4}, {"(say (= none 0))", "0 end", 4}, {"(say (= none 'none'))", "0 end", 4}, {"(say (= none ''))", "0 end", 4},
		{"(let t (thing)) (say (= t t)) (say (= t (thing)))", "1/0 end", 10}, {"(let f (fn ())) (say (= f f)) (say (= f (fn ())))", "1/0 end", 10}, {"(let m (table)) (say (= m m)) (say (= m (table)))", "1/0 end", 10},
		{"(say (= (thing) (table)))", "0 end", 4}, {"(say (= (fn ()) (thing)))", "0 end", 4}, {"(say (= (table) (fn ())))", "0 end", 4},
		{"(let a none) (for i 0 2 (do (let f (fn ())) (say (= f a)) (set a f)))", "0/0 end", 2 + 3 + 2*9},
		{"(say (& 1 'a'))", "1a end", 4}, {"(say (& none ''))", "none end", 4}, {"(say (& 'a' (& ' ' -5)))", "a -5 end", 6}, {"(say (& '' ''))", " end", 4},
		{"(say (+ (* 2 3) (- 9 4)))", "11 end", 8},
		// The first one first.
		{counting + "(say (- (call f) (call f)))", "-1 end", 22}, {counting + "(say (& (call f) (call f)))", "12 end", 22}, {counting + "(say (< (call f) (call f)))", "1 end", 22}, {counting + "(say (+ (call f) (* 10 (call f))))", "21 end", 24}, {counting + "(say (* (call f) (- (call f) 4)))", "-2 end", 24}, {counting + "(say (= (call f) (- (call f) 1)))", "1 end", 24},
	}
}

// counting has four Steps, and each call of its f two, and six within.
const counting = "(let n 0) (let f (fn () (set n (+ n 1)) (back n))) "

func callCases() []playCase {
	return []playCase{
		{"(run (fn (x) (say x)))", "end", 2}, {"(run (call (fn () (say 1))))", "1 end", 5}, {"(say (call (fn ())))", "none end", 3}, {"(say (call (fn () (say 1))))", "1/none end", 5}, {"(say (call (fn () (back none))))", "none end", 5}, {"(say (call (fn () (back 5) (say 6))))", "5 end", 5},
		{"(let f (fn (x) (back x))) (say (call f 7))", "7 end", 8},
		// Too few, just enough, and too many.
		{"(say (call (fn (x y) (back (join x y)))))", "nonenone end", 7}, {"(say (call (fn (x y) (back (join x y))) 1))", "1none end", 8}, {"(say (call (fn (x y) (back (join x y))) 1 2))", "12 end", 9}, {"(say (call (fn (x y) (back (join x y))) 1 2 3))", "12 end", 10}, {"(say (call (fn () (back 1)) 2 3))", "1 end", 7},
		// With (NAME SUM): where it has none, be it given none or not given.
		{"(say (call (fn ((x 7)) (back x))))", "7 end", 6}, {"(say (call (fn ((x 7)) (back x)) 1))", "1 end", 6}, {"(say (call (fn ((x 7)) (back x)) none))", "7 end", 7}, {"(say (call (fn ((x 7)) (back x)) 0))", "0 end", 6}, {"(say (call (fn ((x 7)) (back x)) ''))", " end", 6}, {"(say (call (fn ((x 7)) (back x)) 1 2))", "1 end", 7},
		{"(say (call (fn ((x none)) (back x))))", "none end", 6}, {"(say (call (fn (x (y 2) z) (back (join x y z))) 1))", "12none end", 10}, {"(say (call (fn ((x 1) y (z 3)) (back (join x y z))) none 5))", "153 end", 12}, {"(say (call (fn ((x 1) (y 2)) (back (join x y))) none 5))", "15 end", 10},
		{"(let f (fn ((x 7) y) (say x) (say y))) (run (call f)) (run (call f 1 2 3))", "7/none/1/2 end", 2 + 8 + 10},
		// What SUM is then, in order.
		{"(say (call (fn (x (y (+ x 1))) (back (+ x y))) 4))", "9 end", 11}, {"(say (call (fn ((x 4) (y (+ x 1))) (back (+ x y)))))", "9 end", 11}, {"(say (call (fn ((x y) (y 5)) (back (join x y)))))", "none5 end", 9}, {"(say (call (fn ((x y) (y 5)) (back (join x y))) none 3))", "33 end", 10},
		{"(say (call (fn ((x (call (fn () (set y 3) (back 1)))) (y 5)) (back (join x y)))))", "13 end", 13}, {"(say (call (fn ((x (call (fn () (set x 3) (back 1))))) (back x))))", "1 end", 11}, {"(say (call (fn ((x 1) (y (call (fn () (set x none) (back 2))))) (back (join x y)))))", "none2 end", 14}, {"(say (call (fn ((x (call (fn () (set y none)))) (y 5)) (back (join x y))) none 3))", "none5 end", 14},
		{"(let a 1) (let f (fn ((x a)) (back x))) (set a 2) (say (call f))", "2 end", 12}, {counting + "(let g (fn ((x (call f))) (back x))) (say (join (call g) (call g 9) (call g)))", "192 end", 4 + 2 + 2 + 2 + 8 + 2 + 3 + 2 + 2 + 8 + 2},
		// A SUM knows the PARAMs and what is around, and nothing of the block.
		{"(let a 1) (say (call (fn ((x a)) (let a 2) (back x))))", "1 end", 10}, {"(let x 1) (say (call (fn ((x x)) (back x))))", "none end", 8}, {"(let y 1) (say (call (fn ((x y) y) (back x)) none 5))", "5 end", 10}, {"(say (call (call (fn (x (g (fn () (back x)))) (set x 5) (back g)) 1)))", "5 end", 12},
		{"(hidden p) (let t (thing)) (hput p t 4) (say (call (fn ((x (hget p t))) (hidden p) (back x))))", "4 end", 6 + 3 + 2 + 1 + 2},
		// The block declares the NAME of a PARAM once more.
		{"(say (call (fn (x) (let x 2) (back x)) 1))", "2 end", 8}, {"(say (call (fn (x) (back x) (let x 2)) 1))", "none end", 6}, {"(say (call (fn (x) (do (let x 2) (set x 3)) (back x)) 1))", "1 end", 11}, {"(say (call (fn (x) (vars x) (back x)) 1))", "none end", 7},
		// All sums ahead of the block, in order; the first one may be a call.
		{"(say (call (call (fn (a) (back (fn (b) (back (- a b))))) 9) 4))", "5 end", 12}, {counting + "(say (call (fn (x y) (back (- x y))) (call f) (call f)))", "-1 end", 4 + 3 + 8 + 8 + 4}, {"(let a 1) (say (call (fn (x) (set a 5) (back (join x a))) a))", "15 end", 12},
		// A fn that calls itself, and two that call each other.
		{"(let f (fn (n) (if (< n 2) (back 1) (do)) (back (* n (call f (- n 1)))))) (say (call f 5))", "120 end", 64}, {"(let f (fn (n) (if (= n 0) (back 'even') (back (call g (- n 1)))))) (let g (fn (n) (if (= n 0) (back 'odd') (back (call f (- n 1)))))) (say (call f 3))", "odd end", 4 + 4 + 3*10 + 6},
		{"(let f (fn (n) (let m n) (if (< n 3) (run (call f (+ n 1))) (do)) (say m))) (run (call f 0))", "3/2/1/0 end", 2 + 4 + 3*(2+4+6+2) + (2 + 4 + 1 + 2)},
	}
}

func keptCases() []playCase {
	return []playCase{
		{"(let make (fn () (let n 0) (back (fn () (set n (+ n 1)) (back n))))) (let a (call make)) (let b (call make)) (run (call a)) (say (call a)) (say (call b))", "2/1 end", 43},
		{"(let n 0) (let up (fn () (set n (+ n 1)))) (let at (fn () (back n))) (run (call up)) (run (call up)) (say (call at)) (say n)", "2/2 end", 27},
		{"(let add (fn (a) (back (fn (b) (back (+ a b)))))) (let x (call add 1)) (let y (call add 10)) (say (call x 5)) (say (call y 5)) (say (call x 6))", "6/15/7 end", 2 + 12 + 24},
		// It knows what was known where it was made, not where it is called.
		{"(let a 1) (let f (fn () (back a))) (do (let a 2) (say (call f)) (say a))", "1/2 end", 4 + 1 + 2 + 5 + 2}, {"(let a 1) (let f (fn () (back a))) (say (call (fn (a) (back (call f))) 3))", "1 end", 4 + 4 + 3 + 2}, {"(let f none) (do (let a 7) (set f (fn () (back a)))) (say (call f))", "7 end", 2 + 5 + 5}, {"(let a 1) (let f (fn () (set a 2))) (do (let a 9) (run (call f)) (say a)) (say a)", "9/2 end", 4 + 1 + 2 + 5 + 2 + 2}, {"(for i 0 2 (do (let f (fn () (back i))) (for i 5 6 (say (call f)))))", "0/1 end", 3 + 2*(1+2+3+5)},
		// A turn's own name, and a block's own names, anew each time.
		{"(let t (thing)) (for i 0 3 (put t i (fn () (back i)))) (say (call (get t 0))) (say (call (get t 1))) (say (call (get t 2)))", "0/1/2 end", 38},
		{"(let t (thing)) (for i 0 2 (do (put t i (fn () (set i (+ i 10)) (back i))))) (say (call (get t 0))) (say (call (get t 0))) (say (call (get t 1)))", "10/20/11 end", 48},
		{"(let t (thing)) (let n 0) (while (< n 2) (do (let k n) (put t n (fn () (back k))) (set n (+ n 1)))) (say (call (get t 0))) (say (call (get t 1)))", "0/1 end", 50},
		{"(let t (thing)) (let n 0) (while (< n 2) (do (put t n (fn () (back n))) (set n (+ n 1)))) (say (call (get t 0))) (say (call (get t 1)))", "2/2 end", 46},
		{"(let t (thing)) (for i 0 2 (do (let k i) (put t i (fn () (set k (+ k 1)) (back k))))) (say (call (get t 1))) (say (call (get t 1))) (say (call (get t 0)))", "2/3/1 end", 2 + 3 + 2*7 + 3*11},
		{"(for i 0 2 (do (say k) (let k i) (say k)))", "none/0/none/1 end", 17},
		{"(let f (fn () (say k) (let k 1) (say k))) (run (call f)) (run (call f))", "none/1/none/1 end", 2 + 2*9},
		{"(let f (fn (x) (set x (+ x 1)) (back x))) (say (call f 4)) (say (call f 4))", "5/5 end", 2 + 2*10},
	}
}

func TestPlaysOfSums(t *testing.T) {
	checkPlays(t, signCases())
	checkPlays(t, markCases())
	checkPlays(t, callCases())
	checkPlays(t, keptCases())
}

func memoryCases() []playCase {
	return []playCase{
		{"(run (thing))", "end", 2}, {"(let t (thing 5 'a' none)) (say (get t 0)) (say (get t 1)) (say (get t 2)) (say (get t 3))", "5/a/none/none end", 21}, {"(say (get (thing 1) 'k'))", "none end", 5}, {"(say (get (thing 1) -1))", "none end", 5}, {"(say (get (thing 8 9) 1))", "9 end", 6},
		{"(let t (thing)) (put t 'k' 1) (put t 'k' 2) (say (get t 'k'))", "2 end", 14}, {"(let t (thing)) (put t 1 'n') (put t '1' 's') (say (get t 1)) (say (get t '1'))", "n/s end", 18}, {"(let t (thing)) (put t -5 1) (say (get t -5))", "1 end", 10}, {"(let t (thing)) (put t '' 1) (say (get t ''))", "1 end", 10}, {"(let t (thing 1)) (put t 0 none) (say (get t 0))", "none end", 11}, {"(let t (thing 1 2)) (put t 0 3) (say (get t 0)) (say (get t 1))", "3/2 end", 16},
		{"(let t (thing 1)) (let u t) (put u 0 2) (say (get t 0))", "2 end", 13}, {"(let t (thing 1)) (let u (thing 1)) (put u 0 2) (say (get t 0))", "1 end", 3 + 3 + 4 + 4}, {"(let t (thing)) (put t 0 t) (say (= t (get (get t 0) 0)))", "1 end", 14}, {"(let t (thing (thing 4))) (put (get t 0) 0 5) (say (get (get t 0) 0))", "5 end", 4 + 6 + 6},
		{counting + "(let t (thing (call f) (call f))) (say (get t 0)) (say (get t 1))", "1/2 end", 4 + 2 + 16 + 8}, {counting + "(let t (thing)) (put t (call f) (call f)) (say (get t 1))", "2 end", 4 + 2 + 18 + 4}, {"(let t (thing 'a')) (let g (fn () (set t (thing 'b')) (back 0))) (say (get t (call g)))", "a end", 3 + 2 + 5 + 5},
		{"(say (join))", " end", 2}, {"(say (join 'a'))", "a end", 3}, {"(say (join 1))", "1 end", 3}, {"(say (join 1 none 'b' ''))", "1noneb end", 6}, {"(say (join 'a' (join 'b' (join) 'c') 'd'))", "abcd end", 8}, {"(say (= (join 1) 1)) (say (= (join 1) '1'))", "0/1 end", 10}, {counting + "(say (join (call f) (call f) (call f)))", "123 end", 4 + 2 + 24},
		{"(run (table))", "end", 2}, {"(let m (table)) (let t (thing)) (tput m t 1) (say (tget m t)) (tput m t 2) (say (tget m t))", "1/2 end", 20}, {"(let m (table)) (let t (thing)) (tput m t none) (say (tget m t))", "none end", 12}, {"(let m (table)) (let t (thing)) (let u (thing)) (tput m t 1) (tput m u 2) (say (tget m t)) (say (tget m u))", "1/2 end", 22}, {"(let m (table)) (let k (table)) (let t (thing)) (tput m t 1) (tput k t 2) (say (tget m t)) (say (tget k t))", "1/2 end", 22}, {"(let m (table)) (let t (thing)) (tput m t 1) (put t 0 5) (say (tget m t))", "1 end", 16}, {"(let m (table)) (let k m) (let t (thing)) (tput k t m) (say (= k (tget m t)))", "1 end", 6 + 4 + 6}, {counting + "(let m (table)) (let a (thing)) (let g (fn () (run (call f)) (back a))) (tput m (call g) (call f)) (say (tget m (call g))) (say n)", "2/3 end", 4 + 6 + (2 + 2 + 9 + 2 + 8) + (3 + 2 + 9 + 2) + 2},
	}
}

func hiddenCases() []playCase {
	return []playCase{
		{"(hidden p) (let t (thing)) (hput p t 1) (say (hget p t))", "1 end", 9}, {"(let t (thing)) (hput p t 1) (hidden p) (say (hget p t))", "1 end", 9}, {"(hidden p) (let t (thing)) (hput p t 1) (hput p t 2) (say (hget p t))", "2 end", 12}, {"(hidden p) (let t (thing)) (hput p t none) (say (hget p t))", "none end", 9},
		{"(hidden p q) (let t (thing)) (hput p t 1) (hput q t 2) (say (hget p t)) (say (hget q t))", "1/2 end", 15}, {"(hidden p) (hidden q) (let t (thing)) (hput p t 1) (hput q t 2) (say (hget p t)) (say (hget q t))", "1/2 end", 16}, {"(hidden p) (let t (thing)) (let u (thing)) (hput p t 1) (hput p u 2) (say (hget p t)) (say (hget p u))", "1/2 end", 17},
		{"(hidden a) (let a (thing)) (hput a a 1) (say (hget a a))", "1 end", 9}, {"(hidden p) (let t (thing)) (hput p t 1) (do (hidden p) (hput p t 2) (say (hget p t))) (say (hget p t))", "2/1 end", 6 + 8 + 3}, {"(hidden p) (let t (thing)) (do (hput p t 2)) (say (hget p t))", "2 end", 10}, {"(let t (thing)) (for i 0 2 (do (hidden p) (hput p t i) (say (hget p t))))", "0/1 end", 21},
		{"(hidden p) (let t (thing)) (let f (fn (v) (hput p t v))) (run (call f 3)) (say (hget p t))", "3 end", 1 + 2 + 2 + 7 + 3}, {"(let t (thing)) (let make (fn () (hidden p) (back (fn (v) (if (= v none) (back (hget p t)) (hput p t v)))))) (let a (call make)) (let b (call make)) (run (call a 1)) (run (call b 2)) (say (call a)) (say (call b))", "1/2 end", 2 + 2 + 2*6 + 2*11 + 2*10},
		{"(hidden p) (let t (thing)) (hput p t 1) (let f (fn () (back (hget p t)))) (do (hidden p) (hput p t 2) (say (call f)))", "1 end", 6 + 2 + 1 + 1 + 3 + 3 + 3}, {counting + "(hidden p) (let t (thing)) (let g (fn () (run (call f)) (back t))) (hput p (call g) (call f)) (say (hget p t))", "2 end", 4 + 1 + 2 + 2 + (1 + 2 + 9 + 2 + 8) + 3}, {"(hidden p) (let t (thing)) (let f (fn () (hput p t 5) (back t))) (say (hget p (call f)))", "5 end", 1 + 2 + 2 + 4 + 5},
	}
}

func TestPlaysOfMemory(t *testing.T) {
	checkPlays(t, memoryCases())
	checkPlays(t, hiddenCases())
}

func deedCases() []playCase {
	return []playCase{
		{"(let a 1) (set a 2) (say a)", "2 end", 6}, {"(let a 1) (set a (+ a a)) (say a)", "2 end", 8}, {"(let a 1) (do (set a 2)) (say a)", "2 end", 7}, {"(let a 1) (do (let a 2) (set a 3) (say a)) (say a)", "3/1 end", 11}, {"(let a 1) (do (set a 5) (let a 2) (say a)) (say a)", "2/1 end", 11}, {"(let a 1) (do (say a) (let a a) (say a)) (say a)", "none/none/1 end", 11}, {"(let a 1) (do (let a 2) (do (let a 3) (say a)) (say a)) (say a)", "3/2/1 end", 14}, {"(say a) (let a 1) (say a) (do (let a 2) (say a)) (say a)", "none/1/2/1 end", 13}, {"(let a 1) (let b a) (set a 2) (say b)", "1 end", 8},
		{"(do)", "end", 1}, {"(do (do) (do (do)))", "end", 4}, {"(do (say 1) (say 2)) (say 3)", "1/2/3 end", 7},
		{"(take (a) (thing 1)) (say a)", "1 end", 5}, {"(take (a b c) (thing 1 2)) (say a) (say b) (say c)", "1/2/none end", 10}, {"(take (a) (thing 1 2 3)) (say a)", "1 end", 7}, {"(take (b a) (thing 1 2)) (say a) (say b)", "2/1 end", 8}, {"(let t (thing 5)) (put t 'a' 6) (put t 1 7) (take (a b) t) (say (join a b))", "57 end", 3 + 8 + 2 + 4}, {"(take (a) (thing (thing 4))) (take (b) a) (say b)", "4 end", 8}, {"(let a 1) (do (take (a) (thing 2)) (say a)) (say a)", "2/1 end", 10}, {"(take (a b) (thing 1 2)) (set a b) (say (join a b))", "22 end", 10}, {"(do (take (t u) t) (let v 1)) (let t (thing 1))", "kind", 3},
		{"(if 1 (say 'y') (say 'n'))", "y end", 4}, {"(if 0 (say 'y') (say 'n'))", "n end", 4}, {"(if -1 (say 'y') (say 'n'))", "y end", 4}, {"(if 999999999 (do) (say 'n'))", "end", 3}, {"(if (< 2 1) (say 'y') (if 1 (say 'm') (say 'n')))", "m end", 8}, {"(let a 1) (if a (set a 0) (set a 5)) (say a)", "0 end", 8},
		{"(while 0 (say 1))", "end", 2}, {"(let n 0) (while (< n 3) (set n (+ n 1))) (say n)", "3 end", 29}, {"(let n 3) (while n (do (say n) (set n (- n 1))))", "3/2/1 end", 2 + 1 + 4 + 3*7}, {"(let n -2) (while n (set n (+ n 1))) (say n)", "0 end", 2 + 1 + 3 + 2*4 + 2},
		{"(for i 0 3 (say i))", "0/1/2 end", 9}, {"(for i 3 3 (say i))", "end", 3}, {"(for i 5 3 (say i))", "end", 3}, {"(for i -2 1 (say i))", "-2/-1/0 end", 9}, {"(for i 999999997 999999999 (say i))", "999999997/999999998 end", 7}, {"(for i -999999999 -999999997 (say i))", "-999999999/-999999998 end", 7}, {"(for i 999999999 -999999999 (say i))", "end", 3},
		{"(for i 0 3 (do (set i (+ i 10)) (say i)))", "10/11/12 end", 24}, {"(let n 2) (for i 0 n (do (set n 9) (say i)))", "0/1 end", 15}, {"(let i 2) (for i i (+ i 2) (say i)) (say i)", "2/3/2 end", 13}, {"(for i 0 2 (for i 5 7 (say i)))", "5/6/5/6 end", 3 + 2*7}, {"(for i 0 2 (for j i 2 (say (join i j))))", "00/01/11 end", 3 + 3 + 3 + 3*4}, {counting + "(for i (call f) (+ (call f) 1) (say i))", "1/2 end", 4 + 1 + 8 + 1 + 8 + 1 + 4}, {"(for i 0 2 (do (let i 7) (say i)))", "7/7 end", 3 + 2*5}, {"(let a 0) (for i 0 3 (set a (+ a i))) (say a)", "3 end", 2 + 3 + 12 + 2},
		{"(run 5)", "end", 2}, {"(run none) (run 'a') (run (thing)) (run (fn ())) (run (table))", "end", 10}, {"(run (call (fn () (say 1) (back 2))))", "1 end", 7},
		{"(say 1) (say 2) (say 1)", "1/2/1 end", 6},
	}
}

func wayOutCases() []playCase {
	return []playCase{
		{"(say 1) (back 5) (say 2)", "1 end", 4}, {"(back 1)", "end", 2}, {"(back (thing))", "end", 2}, {"(do (do (back 1))) (say 2)", "end", 4}, {"(if 1 (back 1) (do)) (say 2)", "end", 4}, {"(while 1 (back 1)) (say 2)", "end", 4}, {"(for i 0 9 (do (say i) (back i))) (say 2)", "0 end", 8}, {"(back (call (fn () (say 1)))) (say 2)", "1 end", 5},
		// A back ends its own fn, whatever is within that, and nothing around it.
		{"(say (call (fn () (do (do (back 1))) (say 2))))", "1 end", 7}, {"(say (call (fn () (if 1 (back 1) (back 2)) (say 2))))", "1 end", 7}, {"(say (call (fn () (while 1 (back 1)) (say 2))))", "1 end", 7}, {"(say (call (fn () (for i 5 9 (back i)) (say 2))))", "5 end", 8},
		{"(say (call (fn () (for i 0 5 (while 1 (do (for j 0 5 (if (= j 2) (back (join i j)) (do)))))))))", "02 end", 30}, {"(for i 0 2 (say (call (fn () (while 1 (back i))))))", "0/1 end", 17}, {"(run (call (fn () (run (call (fn () (back 1)))) (say 2)))) (say 3)", "2/3 end", 12}, {"(say (call (fn () (back (call (fn () (back 1)))) (say 2))))", "1 end", 8}, {"(while (call (fn () (back 0))) (say 1)) (say 2)", "2 end", 7},
		{"(while 1 (leave)) (say 1)", "1 end", 5}, {"(for i 0 9 (leave)) (say 1)", "1 end", 6}, {"(for i 0 9 (next)) (say 1)", "1 end", 14}, {"(for i 0 4 (do (if (= i 2) (leave) (do)) (say i)))", "0/1 end", 25}, {"(for i 0 3 (do (if (= i 1) (next) (do)) (say i)))", "0/2 end", 25}, {"(let n 0) (while (< n 3) (do (set n (+ n 1)) (if (= n 2) (next) (do)) (say n)))", "1/3 end", 49}, {"(let n 0) (while 1 (do (set n (+ n 1)) (if (= n 3) (leave) (do)) (say n))) (say 'z')", "1/2/z end", 2 + 1 + 2*13 + 11 + 2}, {"(for i 0 2 (do (do (do (next))) (say i)))", "end", 3 + 2*4}, {"(for i 0 2 (if i (leave) (next)))", "end", 3 + 3 + 3}, {"(for i 0 3 (do (say i) (next) (say 'no')))", "0/1/2 end", 3 + 3*4},
		// Of the loop around, and no further one.
		{"(for i 0 2 (do (for j 0 5 (do (if (= j 1) (leave) (do)) (say (join i j)))) (say i)))", "00/0/10/1 end", 47}, {"(for i 0 2 (do (for j 0 2 (do (if (= j 0) (next) (do)) (say (join i j)))) (say i)))", "01/0/11/1 end", 47}, {"(for i 0 2 (do (while 1 (do (say 'w') (leave))) (say i)))", "w/0/w/1 end", 3 + 2*(1+2+4+2)}, {"(let n 0) (while (< n 2) (do (set n (+ n 1)) (for i 0 9 (do (if (= i n) (leave) (do)) (say i))) (say 'n')))", "0/n/0/1/n end", 2 + 1 + 9 + 2*(1+4+3+2) + 8 + 6 + 8 + 8 + 6}, {"(for i 0 2 (do (for j 0 3 (leave)) (next) (say 'no')))", "end", 3 + 2*(1+3+1+1)}, {"(for i 0 3 (do (for j 0 3 (next)) (leave) (say 'no'))) (say 'z')", "z end", 3 + 1 + 3 + 3 + 1 + 2}, {"(while 1 (do (for i 0 2 (say i)) (leave)))", "0/1 end", 1 + 1 + 1 + 3 + 4 + 1},
		{"(for i 0 2 (say (call (fn () (for j 0 9 (do (if (= j 1) (leave) (do)) (say j))) (back 'b')))))", "0/b/0/b end", 3 + 2*(3+3+8+6+2)}, {"(say (call (fn () (while 1 (do (leave))) (back 1))))", "1 end", 3 + 4 + 2},
	}
}

func TestPlaysOfDeeds(t *testing.T) {
	checkPlays(t, deedCases())
	checkPlays(t, wayOutCases())
}

// over is a sum with three Steps that ends with FtOver, which tells it from all
// faults that come behind it.
const over = "(* 99999 99999)"

var longText = "'" + strings.Repeat("q", 60) + "'"

func faultCases() []playCase {
	return []playCase{
		// Both, then.
		{"(say (+ 1 'a'))", "kind", 4}, {"(say (+ 'a' 1))", "kind", 4}, {"(say (+ 'a' " + over + "))", "over", 6}, {"(say (+ " + over + " 'a'))", "over", 5}, {"(say (- none 1))", "kind", 4}, {"(say (* (thing) 1))", "kind", 4}, {"(say (< none 1))", "kind", 4}, {"(say (< 1 (fn ())))", "kind", 4}, {"(say (< 'a' 'b'))", "kind", 4}, {"(say (* 'a' " + over + "))", "over", 6}, {"(say (- 'a' " + over + "))", "over", 6}, {"(say (< 'a' " + over + "))", "over", 6}, {"(say (= (thing) " + over + "))", "over", 6}, {"(say (& (thing) " + over + "))", "over", 6},
		{"(say (+ 999999999 1))", "over", 4}, {"(say (+ -999999999 -1))", "over", 4}, {"(say (- -999999999 1))", "over", 4}, {"(say (* 40000 40000))", "over", 4}, {"(say (* -40000 40000))", "over", 4}, {"(say (& " + longText + " 'a'))", "over", 4}, {"(say (& " + longText + " ''))", strings.Repeat("q", 60) + " end", 4}, {"(say (& (thing) " + longText + "))", "kind", 4}, {"(say (& " + longText + " (table)))", "kind", 4}, {"(say (& 'a' (fn ())))", "kind", 4},
		// All, then, where the first one is no VaFunc.
		{"(run (call 5))", "kind", 3}, {"(run (call 5 1 2))", "kind", 5}, {"(run (call 5 " + over + "))", "over", 6}, {"(run (call none))", "kind", 3}, {"(run (call 'a'))", "kind", 3}, {"(run (call (thing)))", "kind", 3}, {"(run (call (table) 1))", "kind", 4}, {"(run (call f)) (let f (fn ()))", "kind", 3}, {"(run (call " + over + " 1))", "over", 5}, {"(run (call (fn () (say 1)) " + over + "))", "over", 6},
		{"(say (call (fn ((x (+ 1 none))) (say 1))))", "kind", 6}, {"(say (call (fn ((x 1) (y " + over + ") (z (+ 1 none))) (say 1))))", "over", 7}, {"(say (call (fn ((x (+ 1 none))) (say 1)) 1))", "1/none end", 6},
		{"(run (thing 1 " + over + " (+ 1 none)))", "over", 6},
		// get and put: both, or all, then.
		{"(run (get 5 0))", "kind", 4}, {"(run (get none 0))", "kind", 4}, {"(run (get 'a' 0))", "kind", 4}, {"(run (get (table) 0))", "kind", 4}, {"(run (get (fn ()) 0))", "kind", 4}, {"(run (get (thing) none))", "kind", 4}, {"(run (get (thing) (thing)))", "kind", 4}, {"(run (get (thing) (table)))", "kind", 4}, {"(run (get (thing) (fn ())))", "kind", 4}, {"(run (get 5 " + over + "))", "over", 6}, {"(run (get " + over + " 0))", "over", 5},
		{"(put 5 0 1)", "kind", 4}, {"(put (table) 0 1)", "kind", 4}, {"(put (thing) none 1)", "kind", 4}, {"(put (thing) (thing) 1)", "kind", 4}, {"(put (thing) (table) 1)", "kind", 4}, {"(put (thing) (fn ()) 1)", "kind", 4}, {"(put 5 none " + over + ")", "over", 6}, {"(put 5 " + over + " 1)", "over", 5}, {"(put " + over + " 1 1)", "over", 4},
		// Each as soon as it is there.
		{"(say (join (thing) " + over + "))", "kind", 3}, {"(say (join 'a' (thing) " + over + "))", "kind", 4}, {"(say (join " + longText + " 'a' (thing)))", "over", 4}, {"(say (join " + longText + " '' (thing)))", "kind", 5}, {"(say (join 'a' (tget (table) (thing)) (thing)))", "key", 6}, {"(say (join (fn ())))", "kind", 3}, {"(say (join (table)))", "kind", 3}, {"(say (join " + longText + " 'a' " + over + "))", "over", 4},
		// The sums, of hget and hput behind their Table, then.
		{"(run (tget 5 (thing)))", "kind", 4}, {"(run (tget (thing) (thing)))", "kind", 4}, {"(run (tget (table) 5))", "kind", 4}, {"(run (tget (table) (table)))", "kind", 4}, {"(run (tget (table) none))", "kind", 4}, {"(run (tget (table) (thing)))", "key", 4}, {"(run (tget 5 " + over + "))", "over", 6}, {"(run (tget " + over + " 5))", "over", 5}, {"(let m (table)) (tput m (thing) 1) (run (tget m (thing)))", "key", 10},
		{"(hidden p) (run (hget p 5))", "kind", 4}, {"(hidden p) (run (hget p none))", "kind", 4}, {"(hidden p) (run (hget p (table)))", "kind", 4}, {"(hidden p) (run (hget p (thing)))", "key", 4}, {"(hidden p) (run (hget p " + over + "))", "over", 6}, {"(hidden p q) (let t (thing)) (hput p t 1) (run (hget q t))", "key", 9}, {"(let t (thing)) (for i 0 2 (do (hidden p) (if i (run (hget p t)) (hput p t 1))))", "key", 2 + 3 + (1 + 1 + 2 + 3) + (1 + 1 + 2 + 3)},
		{"(tput 5 (thing) 1)", "kind", 4}, {"(tput (table) 5 1)", "kind", 4}, {"(tput (table) (table) 1)", "kind", 4}, {"(tput (thing) (thing) 1)", "kind", 4}, {"(tput 5 5 " + over + ")", "over", 6}, {"(tput 5 " + over + " 1)", "over", 5}, {"(tput " + over + " 5 1)", "over", 4},
		{"(hidden p) (hput p 5 1)", "kind", 4}, {"(hidden p) (hput p none 1)", "kind", 4}, {"(hidden p) (hput p (table) 1)", "kind", 4}, {"(hidden p) (hput p 5 " + over + ")", "over", 6}, {"(hidden p) (hput p " + over + " 1)", "over", 5},
		// Deeds.
		{"(let a " + over + ") (say 1)", "over", 4}, {"(let a 1) (set a " + over + ") (say a)", "over", 6}, {"(take (a) 5)", "kind", 2}, {"(take (a) none)", "kind", 2}, {"(take (a) 'a')", "kind", 2}, {"(take (a) (table))", "kind", 2}, {"(take (a) (fn ()))", "kind", 2}, {"(take (a) " + over + ")", "over", 4},
		{"(if 'a' (say 1) (say 2))", "kind", 2}, {"(if none (say 1) (say 2))", "kind", 2}, {"(if (thing) (say 1) (say 2))", "kind", 2}, {"(if " + over + " (say 1) (say 2))", "over", 4}, {"(while none (say 1))", "kind", 2}, {"(while '' (say 1))", "kind", 2}, {"(let n 2) (while n (do (say n) (set n 'x')))", "2 kind", 10},
		{"(for i 'a' 3 (say i))", "kind", 3}, {"(for i 0 none (say i))", "kind", 3}, {"(for i 'a' " + over + " (do))", "over", 5}, {"(for i " + over + " 'a' (do))", "over", 4}, {"(for i 5 (thing) (say i))", "kind", 3}, {"(for i (fn ()) 0 (say i))", "kind", 3},
		{"(say (thing))", "kind", 2}, {"(say (fn ()))", "kind", 2}, {"(say (table))", "kind", 2}, {"(back (+ 1 none))", "kind", 4}, {"(run " + over + ")", "over", 4},
	}
}

// endingCases end within something, and all around it with that.
func endingCases() []playCase {
	return []playCase{
		{"(say 1) (do (while 1 (run (call (fn () (say 2) (say (thing)) (say 3)))))) (say 4)", "1/2 kind", 2 + 1 + 2 + 3 + 2 + 2}, {"(say 1) (run (tget (table) (thing))) (say 2)", "1 key", 6}, {"(for i 0 5 (do (say i) (run (+ i (get (thing 1 2 'x') i)))))", "0/1/2 kind", 3 + 3*(1+2+2+1+1+4+1)}, {"(run (call (fn ((x (call (fn () (say 1) (back " + over + "))))) (say x)))) (say 2)", "1 over", 3 + 2 + 2 + 4}, {"(if (call (fn () (say 1) (put 1 2 3))) (say 2) (say 3)) (say 4)", "1 kind", 3 + 2 + 4}, {"(let f (fn (n) (say n) (run (call f (- n 1))) (say 'no'))) (run (call f 'x'))", "x kind", 2 + 4 + 2 + 6},
		{"(while 1 (do))", "fuel", 20000}, {"(while 1 (do (do)))", "fuel", 20000},
	}
}

func TestPlaysThatEndWithAFault(t *testing.T) {
	checkPlays(t, faultCases())
	for _, c := range endingCases() {
		if c.steps < impl.MaxFuel {
			checkPlays(t, []playCase{c})
		} else if got := checkShow(t, signsOf(t, c.page), impl.MaxFuel); impl.Words(got) != c.words || got.Steps != c.steps {
			t.Errorf("%s: %s", c.page, showShow(got))
		}
	}
}

// Each fault within each surrounding: what was said ahead of it stays said, and
// nothing more is said.
func TestAFaultEndsAll(t *testing.T) {
	for _, c := range faultCases() {
		if strings.Contains(c.words, "end") {
			continue
		}
		for _, around := range []string{
			"HERE (say 'no')", "(do HERE (say 'no')) (say 'no')", "(do (do (do HERE) (say 'no'))) (say 'no')", "(if 1 (do HERE) (say 'no')) (say 'no')", "(while 1 (do HERE)) (say 'no')", "(for w 0 9 (do HERE (say 'no'))) (say 'no')",
			"(run (call (fn () HERE (say 'no')))) (say 'no')", "(say (call (fn () (while 1 (do HERE)))))", "(let w (fn (v) HERE)) (for i 0 3 (say (call w i)))", "(say (join 'no' (call (fn () HERE)) 'no'))", "(run (call (fn ((v (call (fn () HERE)))) (say 'no')))) (say 'no')", "(say (+ (call (fn () HERE)) (say2)))",
		} {
			page := "(say 'a') (say 'b') " + strings.ReplaceAll(strings.ReplaceAll(around, "HERE", c.page), "(say2)", "(call (fn () (say 'no')))")
			if got := checkShow(t, signsOf(t, page), 2000); !strings.HasPrefix(impl.Words(got), "a/b") || !strings.HasSuffix(impl.Words(got), c.words) || slices.Contains(got.Said, "no") {
				t.Errorf("%s: %s", page, showShow(got))
			}
		}
	}
}

func allCases() []playCase {
	return slices.Concat(signCases(), markCases(), callCases(), keptCases(), memoryCases(), hiddenCases(), deedCases(), wayOutCases(), faultCases(), endingCases())
}

func TestPlaysWithFuelAtItsEdges(t *testing.T) {
	wrong := impl.Show{Fault: impl.FtKind}
	for _, c := range allCases() {
		l := signsOf(t, c.page)
		for _, fuel := range []int64{-1, -2, impl.MaxFuel + 1, impl.MaxFuel + 2, -impl.MaxFuel, 1 << 32, -1 << 32, 1<<32 + 5, math.MinInt64, math.MaxInt64} {
			if got := impl.Played(l, fuel); !sameShow(got, wrong) {
				t.Errorf("%s with fuel %d: %s", c.page, fuel, showShow(got))
			}
		}
		none := impl.Show{Fault: impl.FtFuel}
		if c.steps == 0 {
			none.Fault = impl.FtNone
		}
		if got := checkShow(t, l, 0); !sameShow(got, none) {
			t.Errorf("%s with no fuel: %s", c.page, showShow(got))
		}
		if got := checkShow(t, l, 1); got.Steps != min(c.steps, 1) || len(got.Said) > 0 {
			t.Errorf("%s with fuel 1: %s", c.page, showShow(got))
		}
	}
	for fuel := range int64(5) {
		if got := checkShow(t, nil, fuel); !sameShow(got, impl.Show{}) {
			t.Errorf("nothing with fuel %d: %s", fuel, showShow(got))
		}
	}
}

// Where the Steps are as many as fuel, at a deed and at a sum.
func TestPlaysThatRunOutOfFuel(t *testing.T) {
	for _, c := range []struct {
		page string
		fuel int64
		want impl.Show
	}{
		{"(say 1) (say (+ 1 2))", 0, impl.Show{Fault: impl.FtFuel}}, {"(say 1) (say (+ 1 2))", 1, impl.Show{Fault: impl.FtFuel, Steps: 1}}, {"(say 1) (say (+ 1 2))", 2, impl.Show{Said: []string{"1"}, Fault: impl.FtFuel, Steps: 2}}, {"(say 1) (say (+ 1 2))", 3, impl.Show{Said: []string{"1"}, Fault: impl.FtFuel, Steps: 3}}, {"(say 1) (say (+ 1 2))", 5, impl.Show{Said: []string{"1"}, Fault: impl.FtFuel, Steps: 5}}, {"(say 1) (say (+ 1 2))", 6, impl.Show{Said: []string{"1", "3"}, Steps: 6}}, {"(say 1) (say (+ 1 2))", 7, impl.Show{Said: []string{"1", "3"}, Steps: 6}},
		// The last step may be a deed that has nothing in it.
		{"(do)", 0, impl.Show{Fault: impl.FtFuel}}, {"(do)", 1, impl.Show{Steps: 1}}, {"(vars)", 0, impl.Show{Fault: impl.FtFuel}}, {"(vars)", 1, impl.Show{Steps: 1}}, {"(hidden p)", 1, impl.Show{Steps: 1}}, {"(do (do))", 1, impl.Show{Fault: impl.FtFuel, Steps: 1}}, {"(while 1 (leave))", 2, impl.Show{Fault: impl.FtFuel, Steps: 2}}, {"(while 1 (leave))", 3, impl.Show{Steps: 3}}, {"(while 0 (do))", 1, impl.Show{Fault: impl.FtFuel, Steps: 1}}, {"(while 0 (do))", 2, impl.Show{Steps: 2}}, {"(for i 0 1 (next))", 3, impl.Show{Fault: impl.FtFuel, Steps: 3}}, {"(for i 0 1 (next))", 4, impl.Show{Steps: 4}},
		// A fault that comes with the last step is that fault.
		{"(say (+ 1 none))", 4, impl.Show{Fault: impl.FtKind, Steps: 4}}, {"(say (+ 1 none))", 3, impl.Show{Fault: impl.FtFuel, Steps: 3}}, {"(run (tget (table) (thing)))", 4, impl.Show{Fault: impl.FtKey, Steps: 4}}, {"(run (tget (table) (thing)))", 3, impl.Show{Fault: impl.FtFuel, Steps: 3}}, {"(run (call 5))", 3, impl.Show{Fault: impl.FtKind, Steps: 3}},
	} {
		if got := checkShow(t, signsOf(t, c.page), c.fuel); !sameShow(got, c.want) {
			t.Errorf("%s with fuel %d: %s; want %s", c.page, c.fuel, showShow(got), showShow(c.want))
		}
	}
	// Just as many Steps as the most fuel that there may be, and one more.
	for _, c := range []struct {
		page  string
		words string
		steps int64
	}{
		{"", "end", 19998}, {"(run 1)", "end", 20000}, {"(do) (do)", "end", 20000}, {"(do) (do) (do)", "fuel", 20000}, {"(do) (run 1)", "fuel", 20000}, {"(run (+ 1 none))", "fuel", 20000}, {"(say 1)", "1 end", 20000},
	} {
		long := "(let n 0) (while (< n 2856) (set n (+ n 1))) "
		if got := checkShow(t, signsOf(t, long+c.page), impl.MaxFuel); impl.Words(got) != c.words || got.Steps != c.steps {
			t.Errorf("%s: %s; want %s, %d steps", long+c.page, showShow(got), c.words, c.steps)
		}
	}
}

// Limits: one that is met exactly is accepted, one that is passed by one is
// refused.

func TestPlaysWithManyCallsWithinOneAnother(t *testing.T) {
	down := "(let f (fn (n) (say n) (if (= n 0) (do) (run (call f (- n 1)))))) "
	for _, c := range []struct {
		from  int64
		fault int64
		said  int
		steps int64
	}{
		{0, impl.FtNone, 1, 2 + 4 + 7}, {1, impl.FtNone, 2, 2 + 4 + 12 + 7}, {38, impl.FtNone, 39, 2 + 4 + 38*12 + 7}, {39, impl.FtNone, 40, 2 + 4 + 39*12 + 7}, {40, impl.FtMany, 40, 2 + 4 + 40*12}, {41, impl.FtMany, 40, 2 + 4 + 40*12}, {1000, impl.FtMany, 40, 2 + 4 + 40*12},
	} {
		got := checkShow(t, signsOf(t, fmt.Sprintf("%s(run (call f %d)) (say 'z')", down, c.from)), impl.MaxFuel)
		if c.fault == impl.FtNone {
			c.said, c.steps = c.said+1, c.steps+2
		}
		if got.Fault != c.fault || len(got.Said) != c.said || got.Steps != c.steps {
			t.Errorf("from %d on: %s", c.from, showShow(got))
		}
	}
	checkPlays(t, []playCase{
		// A call that has ended is within none; nor is one that is given to another.
		{"(let f (fn () (back 1))) (for i 0 100 (run (call f))) (say 'z')", "z end", 2 + 3 + 100*5 + 2},
		{"(let f (fn (n) (back n))) (say " + strings.Repeat("(call f ", 50) + "7" + strings.Repeat(")", 50) + ")", "7 end", 2 + 1 + 50*4 + 1},
		{"(let f (fn (n) (if (= n 0) (do) (run (call f (- n 1)))) (if (= n 0) (do) (run (call f (- n 1)))))) (run (call f 5)) (say 'z')", "z end", 2 + 4 + 31*20 + 32*10 + 2},
		// A SUM of a PARAM is within the call whose PARAM it is.
		{"(let f (fn (n (m (call f (+ n 1)))) (say n))) (run (call f 0))", "many", 2 + 4 + 40*5},
		// What is called back is within, whoever made it.
		{"(let f (fn (g) (run (call g g)))) (run (call f f))", "many", 2 + 4 + 40*4},
		// The sums ahead of it are Steps, and their faults come first.
		{"(let f (fn (n) (run (call f (+ n 1) (- n 38) (* n 26000000))))) (run (call f 0))", "over", 2 + 4 + 40*12},
	})
	// What is no VaFunc is told ahead of too many calls.
	for _, c := range []playCase{{"(let f (fn (n) (if (= n 39) (run (call 5)) (run (call f (+ n 1)))))) (run (call f 0))", "kind", 2 + 4 + 39*10 + 4 + 3}, {"(let f (fn (n) (if (= n 39) (run (call f 5)) (run (call f (+ n 1)))))) (run (call f 0))", "many", 2 + 4 + 39*10 + 4 + 4}} {
		checkPlays(t, []playCase{c})
	}
}

func TestPlaysThatSayMuch(t *testing.T) {
	for _, c := range []struct {
		page  string
		fault int64
		said  int
		steps int64
	}{
		{"(for i 0 199 (say i))", impl.FtNone, 199, 3 + 398}, {"(for i 0 200 (say i))", impl.FtNone, 200, 3 + 400}, {"(for i 0 201 (say i))", impl.FtMany, 200, 3 + 402}, {"(for i 0 300 (say ''))", impl.FtMany, 200, 3 + 402}, {"(while 1 (say 0))", impl.FtMany, 200, 1 + 200*3 + 3}, {"(for i 0 200 (say i)) (do)", impl.FtNone, 200, 404}, {"(for i 0 200 (say i)) (say 1)", impl.FtMany, 200, 405},
		// What has no text is no Said: its fault comes first.
		{"(for i 0 200 (say i)) (say (thing))", impl.FtKind, 200, 405}, {"(for i 0 200 (say i)) (say " + over + ")", impl.FtOver, 200, 407}, {"(let f (fn () (for i 0 100 (say i)))) (run (call f)) (run (call f)) (run (call f))", impl.FtMany, 200, 2 + 3*3 + 3*3 + 400 + 2},
	} {
		if got := checkShow(t, signsOf(t, c.page), impl.MaxFuel); got.Fault != c.fault || len(got.Said) != c.said || got.Steps != c.steps {
			t.Errorf("%s: %s", c.page, showShow(got))
		}
	}
}

func TestPlaysThatMakeManyFns(t *testing.T) {
	checkPlays(t, []playCase{
		{"(for i 0 999 (run (fn ())))", "end", 3 + 999*2}, {"(for i 0 1000 (run (fn ())))", "end", 3 + 2000}, {"(for i 0 1001 (run (fn ())))", "many", 3 + 2002}, {"(for i 0 1000 (run (fn ()))) (say 1) (run (fn ()))", "1 many", 3 + 2000 + 2 + 2}, {"(for i 0 999 (run (fn ()))) (say (call (fn () (back 1)))) (say (call (fn () (back 1))))", "1 many", 3 + 1998 + 5 + 3},
		{"(let f none) (for i 0 500 (do (set f (fn () (back i))) (run (fn ())))) (say (call f)) (run (fn ()))", "499 many", 2 + 3 + 500*5 + 5 + 2}, {"(for i 0 1000 (run (fn ()))) (run (call (fn ()) " + over + "))", "many", 3 + 2000 + 3}, {"(for i 0 1000 (run (fn ()))) (say (+ none (fn ())))", "many", 3 + 2000 + 4},
	})
}

// With all Cells but two taken, each of these has room for just two more.
func TestPlaysWithJustEnoughCells(t *testing.T) {
	for _, c := range []struct {
		form  string
		ahead int64
	}{
		{"(do NAMES (say 1))", 1}, {"(do (take (LIST) (thing)) (say 1))", 1}, {"(run (call (fn (LIST) (say 1))))", 3}, {"(run (call (fn (PAIRS) (say 1))))", 3}, {"(run (call (fn () (vars LIST) (say 1))))", 3}, {"(run (call (fn () NAMES (say 1))))", 3},
	} {
		for count, want := range map[int]int64{0: impl.FtNone, 1: impl.FtNone, 2: impl.FtNone, 3: impl.FtMany, 4: impl.FtMany} {
			var names, list, pairs string
			for n := range count {
				name := fmt.Sprintf("a%d", n)
				names, list, pairs = names+"(let "+name+" 1)", list+" "+name, pairs+"("+name+" 5)"
			}
			if count == 0 && strings.Contains(c.form, "take") {
				continue
			}
			page := "(for i 0 3998 (do)) " + strings.NewReplacer("NAMES", names, "LIST", list, "PAIRS", pairs).Replace(c.form)
			got := checkShow(t, signsOf(t, page), impl.MaxFuel)
			if got.Fault != want || want == impl.FtMany && (len(got.Said) > 0 || got.Steps != 3+3998+c.ahead) || want == impl.FtNone && len(got.Said) != 1 {
				t.Errorf("%d more by %s: %s", count, c.form, showShow(got))
			}
		}
	}
	checkPlays(t, []playCase{
		{"(for i 0 3999 (do))", "end", 3 + 3999}, {"(for i 0 4000 (do))", "end", 4003}, {"(for i 0 4001 (do))", "many", 4003}, {"(for i 0 9000 (do))", "many", 4003}, {"(let a 1) (for i 0 3999 (do)) (say a)", "1 end", 2 + 3 + 3999 + 2}, {"(let a 1) (for i 0 4000 (do)) (say a)", "many", 2 + 3 + 3999}, {"(for i 0 4000 (do)) (do (do)) (say 1)", "1 end", 4003 + 4}, {"(for i 0 4000 (do)) (for i 5 5 (do)) (run (call (fn ())))", "end", 4003 + 3 + 3}, {"(for i 0 4000 (do)) (for i 5 6 (say i))", "many", 4003 + 3},
		// Two are taken ahead of the third one's block: a PARAM's and the block's.
		{"(for i 0 3998 (do)) (run (call (fn (a) (let b 2) (say (+ a b))) 1))", "3 end", 4001 + 4 + 2 + 4}, {"(for i 0 3998 (do)) (run (call (fn ((a 7)) (let b 2) (let c 3) (say a))))", "many", 4001 + 3 + 1}, {"(for i 0 3998 (do)) (do (let a 1) (do (let b 2) (do (let c 3))))", "many", 4001 + 3 + 2 + 2},
	})
	names := strings.Join(manyOf(99, nameOfPlace), " ")
	checkPlays(t, []playCase{
		{"(let f (fn (x) (vars " + names + "))) (for i 1 40 (run (call f))) (say 'z')", "z end", 2 + 3 + 39*4 + 2}, {"(let f (fn (x) (vars " + names + "))) (for i 0 40 (run (call f))) (say 'z')", "many", 2 + 3 + 39*4 + 3},
	})
}

func TestPlaysWithManyThings(t *testing.T) {
	sixty, sixtyOne := strings.Repeat(" 7", 60), strings.Repeat(" 7", 61)
	checkPlays(t, []playCase{
		{"(for i 0 999 (run (thing)))", "end", 3 + 999*2}, {"(for i 0 1000 (run (thing)))", "end", 2003}, {"(for i 0 1001 (run (thing)))", "many", 2005}, {"(for i 0 1000 (run (thing))) (say 1) (run (thing 1 2))", "1 many", 2003 + 2 + 4}, {"(for i 0 1000 (run (thing))) (run (thing " + over + "))", "over", 2003 + 5},
		// As many Slots as a Thing may have, by thing and by put.
		{"(say (get (thing" + sixty + ") 59))", "7 end", 4 + 60}, {"(say (get (thing" + sixtyOne + ") 59))", "many", 3 + 61}, {"(say 1) (run (thing" + sixtyOne + "))", "1 many", 2 + 2 + 61}, {"(run (thing" + sixtyOne + " " + over + "))", "over", 2 + 61 + 3},
		{"(let t (thing)) (for i 0 60 (put t i i)) (say (get t 59))", "59 end", 2 + 3 + 60*4 + 4}, {"(let t (thing)) (for i 0 61 (put t i i)) (say (get t 59))", "many", 2 + 3 + 61*4}, {"(let t (thing)) (for i 0 60 (put t i i)) (put t 59 'y') (say (get t 59)) (put t 0 'z') (say (get t 0)) (put t 60 1)", "y/z many", 2 + 3 + 240 + 8 + 8 + 4}, {"(let t (thing" + sixty + ")) (put t 5 'y') (say (get t 5)) (put t 'k' 1)", "y many", 62 + 4 + 4 + 4}, {"(let t (thing" + sixty + ")) (say (get t 'k')) (put t none 1)", "none kind", 62 + 4 + 4}, {"(let t (thing" + sixty + ")) (put t -1 (thing))", "many", 62 + 4}, {"(let t (thing" + sixty[2:] + ")) (put t 'k' 1) (say (get t 'k')) (put t 'j' 1)", "1 many", 61 + 4 + 4 + 4}, {"(let t (thing" + sixty[2:] + ")) (put t 58 1) (put t 59 2) (take (a) t) (say a)", "7 end", 61 + 4 + 4 + 2 + 2},
	})
}

func TestPlaysWithManyTables(t *testing.T) {
	list := func(n int) string { return strings.Join(manyOf(n, nameOfPlace), " ") }
	checkPlays(t, []playCase{
		{"(for i 0 199 (run (table)))", "end", 3 + 199*2}, {"(for i 0 200 (run (table)))", "end", 403}, {"(for i 0 201 (run (table)))", "many", 405}, {"(for i 0 200 (do (hidden p)))", "end", 403}, {"(for i 0 201 (do (hidden p)))", "many", 404}, {"(hidden q) (for i 0 199 (do (hidden p))) (say 1)", "1 end", 1 + 3 + 398 + 2}, {"(hidden q) (for i 0 200 (do (hidden p))) (say 1)", "many", 1 + 3 + 398 + 1},
		{"(for i 0 199 (run (table))) (do (hidden p) (say 1))", "1 end", 401 + 1 + 1 + 2}, {"(for i 0 199 (run (table))) (do (hidden p q) (say 1))", "many", 402}, {"(for i 0 199 (run (table))) (do (say 1) (hidden p) (hidden q))", "many", 402}, {"(for i 0 200 (run (table))) (run (call (fn () (hidden) (say 1))))", "1 end", 403 + 3 + 1 + 2}, {"(for i 0 200 (run (table))) (run (call (fn () (hidden p) (say 1))))", "many", 403 + 3},
		// The play's own block is come into ahead of all Steps.
		{"(hidden " + list(200) + ") (say 1)", "1 end", 3}, {"(say 1) (hidden " + list(201) + ")", "many", 0}, {"(hidden " + list(200) + ") (say 1) (run (table))", "1 many", 5}, {"(do (say 1) (hidden " + list(201) + "))", "many", 1},
	})
	if got := checkShow(t, signsOf(t, "(say 1) (hidden "+list(201)+")"), 0); got.Fault != impl.FtMany || got.Steps != 0 {
		t.Errorf("too many hiddens with no fuel: %s", showShow(got))
	}
	// As many Rows as there are Things.
	checkPlays(t, []playCase{{"(let m (table)) (for i 0 1000 (tput m (thing) i)) (say 1)", "1 end", 2 + 3 + 4000 + 2}, {"(hidden p) (let t none) (for i 0 1000 (do (set t (thing)) (hput p t i))) (say (hget p t))", "999 end", 1 + 2 + 3 + 6000 + 3}})
}

// longPlays are of just MaxSigns signs, or one or two less.
func longPlays() []playCase {
	names := manyOf(1997, nameOfPlace)
	list := strings.Join(names[:1986], " ")
	return []playCase{
		{"(vars " + strings.Join(names, " ") + ")", "end", 1}, {"(vars " + list + ") (set n0 1) (say n0)", "1 end", 5}, {"(vars " + list + ") (set n1985 1) (say n999)", "none end", 5},
		{"(take (" + strings.Join(names[:1980], " ") + ") (thing 1 2 3)) (say n2) (say n3)", "3/none end", 1 + 4 + 4}, {"(run (fn (" + strings.Join(names[:1992], " ") + ")))", "end", 2}, {"(say (call (fn (" + strings.Join(names[:1900], " ") + ") (back n1)) 1 2))", "2 end", 7},
		{strings.Repeat("(say 1)", 200) + strings.Repeat("(do)", 400), strings.Repeat("1/", 199) + "1 end", 800}, {strings.Repeat("(run 1)", 500), "end", 1000}, {strings.Repeat("(do)", 666), "end", 666},
		{"(say (join" + strings.Repeat(" ''", 1993) + "))", " end", 1995}, {"(say (join" + strings.Repeat(" 1", 1993) + "))", "over", 2 + 61}, {"(run (thing" + strings.Repeat(" 1", 1993) + "))", "many", 1995}, {"(run (call (fn (x) (say x))" + strings.Repeat(" 5", 1980) + "))", "5 end", 3 + 1980 + 2}, {"(hidden " + strings.Join(names, " ") + ")", "many", 0},
		{"(let a 1)" + strings.Repeat("(set a (+ a 1))", 221) + "(say a)", "222 end", 2 + 221*4 + 2}, {strings.Repeat("(do ", 59) + strings.Repeat("(say 'x')", 100) + strings.Repeat(")", 59) + strings.Repeat("(do)", 474), strings.Repeat("x/", 99) + "x end", 59 + 200 + 474},
	}
}

func TestPlaysOfTwoThousandSigns(t *testing.T) {
	whole := 0
	for _, c := range longPlays() {
		l := signsOf(t, c.page)
		if len(l) == impl.MaxSigns {
			whole++
		}
		if got := checkShow(t, l, impl.MaxFuel); impl.Words(got) != c.words || got.Steps != c.steps {
			t.Errorf("%s: %s; want %q, %d", shortPlay(l), showShow(got), short(c.words), c.steps)
		}
		more := append(slices.Clone(l), slices.Repeat([]string{"(", "do", ")"}, 1+(impl.MaxSigns-len(l))/3)...)
		if len(more) <= impl.MaxSigns {
			t.Fatal("the test itself is wrong")
		}
		if got := impl.Played(more, impl.MaxFuel); !sameShow(got, impl.Show{Fault: impl.FtKind}) {
			t.Errorf("of %d signs: %s", len(more), showShow(got))
		}
	}
	if whole < 3 {
		t.Errorf("only %d plays of 2000 signs", whole)
	}
}

// A name is found however many are known: the first one, one in the middle, and
// the last one, and one that hides it.
func TestPlaysWithManyNames(t *testing.T) {
	for _, count := range []int{1, 2, 50, 399, 400, 401, 402, 1000, 1900} {
		names := manyOf(count, nameOfPlace)
		list := strings.Join(names, " ")
		first, middle, last := names[0], names[count/2], names[count-1]
		page := "(vars " + list + ") (set " + first + " 1) (set " + middle + " 2) (set " + last + " 3) (do (let x (join " + first + " " + middle + " " + last + ")) (say x)) (do (let " + middle + " 9) (say (join " + first + " " + middle + "))) (say " + middle + ")"
		got := checkShow(t, signsOf(t, page), impl.MaxFuel)
		want := "123/19/2 end"
		switch count {
		case 1:
			want = "333/99/3 end"
		case 2:
			want = "133/19/3 end"
		}
		if words := impl.Words(got); words != want {
			t.Errorf("with %d names: %s", count, words)
		}
	}
}

func TestPlaysAsDeepAsTheyMayBe(t *testing.T) {
	for _, c := range []struct {
		ahead, inside, behind string
		depth                 int
		words                 string
	}{
		{"(do ", "(say 1)", ")", 1, "1 end"}, {"(do (let a 1) ", "(say a)", ")", 1, "1 end"}, {"(if 1 ", "(say 1)", " (do))", 1, "1 end"}, {"(for i 0 1 ", "(say i)", ")", 1, "0 end"}, {"(while 1 ", "(back 1)", ")", 1, "end"}, {"(run (call (fn () ", "(say 1)", ")))", 3, "1 end"}, {"(back (+ 1 (call (fn () ", "(back 1)", "))))", 4, "end"},
	} {
		times := (impl.MaxDepth - 1) / c.depth
		page := strings.Repeat(c.ahead, times) + c.inside + strings.Repeat(c.behind, times)
		l := signsOf(t, page)
		if got := checkShow(t, l, impl.MaxFuel); impl.Words(got) != c.words || got.Steps == 0 {
			t.Errorf("%s: %s", page, showShow(got))
		}
		deeper := signsOf(t, strings.Repeat("(do ", c.depth)+page+strings.Repeat(")", c.depth))
		if got := impl.Played(deeper, impl.MaxFuel); impl.PlayOk(deeper) || !sameShow(got, impl.Show{Fault: impl.FtKind}) {
			t.Errorf("%s: %s", shortPlay(deeper), showShow(got))
		}
	}
	sums := func(depth int) []string {
		return signsOf(t, "(say "+strings.Repeat("(+ 1 ", depth)+"1"+strings.Repeat(")", depth)+")")
	}
	if got := checkShow(t, sums(59), impl.MaxFuel); impl.Words(got) != "60 end" || got.Steps != 1+59*2+1 {
		t.Errorf("59 sums within one another: %s", showShow(got))
	}
	if got := checkShow(t, sums(60), impl.MaxFuel); !sameShow(got, impl.Show{Fault: impl.FtKind}) {
		t.Errorf("60 sums within one another: %s", showShow(got))
	}
}

func TestEnded(t *testing.T) {
	for _, fault := range []int64{impl.FtNone, impl.FtKind, impl.FtOver, impl.FtKey, impl.FtFuel, impl.FtMany, -1, 6, 7, 100, 1 << 32, 1<<32 + impl.FtFuel, -impl.FtFuel, -impl.FtMany, math.MinInt64, math.MaxInt64} {
		want := fault != 4 && fault != 5
		for _, said := range [][]string{nil, {}, {""}, {"a", "b"}} {
			for _, steps := range []int64{0, 7, -1, impl.MaxFuel + 1} {
				if got := impl.Ended(impl.Show{Said: said, Fault: fault, Steps: steps}); got != want {
					t.Errorf("Ended of %q, %d, %d is %v", said, fault, steps, got)
				}
			}
		}
	}
}

func TestWords(t *testing.T) {
	ends := []string{"end", "kind", "over", "key", "fuel", "many"}
	for fault, end := range ends {
		for _, c := range []struct {
			said []string
			want string
		}{
			{nil, end}, {[]string{}, end}, {[]string{"a"}, "a " + end}, {[]string{"a", "b"}, "a/b " + end}, {[]string{"1", "none", "a b", "-5"}, "1/none/a b/-5 " + end},
			// An empty one, alone and among others.
			{[]string{""}, " " + end}, {[]string{"", ""}, "/ " + end}, {[]string{"", "a"}, "/a " + end}, {[]string{"a", ""}, "a/ " + end}, {[]string{"a", "", "b"}, "a//b " + end}, {[]string{"", "", ""}, "// " + end},
			// What no play says is put down as it is.
			{[]string{"/"}, "/ " + end}, {[]string{"A\n", "é"}, "A\n/é " + end}, {[]string{end}, end + " " + end}, {slices.Repeat([]string{"q"}, 300), strings.Repeat("q/", 299) + "q " + end},
		} {
			for _, steps := range []int64{0, 5, -5, math.MaxInt64} {
				if got := impl.Words(impl.Show{Said: c.said, Fault: int64(fault), Steps: steps}); got != c.want {
					t.Errorf("Words of %q, %d: %q; want %q", c.said, fault, got, c.want)
				}
			}
		}
	}
	for _, fault := range []int64{-1, 6, 7, 100, -5, 1 << 32, 1<<32 + 1, math.MinInt64, math.MaxInt64} {
		for _, said := range [][]string{nil, {}, {""}, {"a"}, {"a", "b"}} {
			if got := impl.Words(impl.Show{Said: said, Fault: fault, Steps: 5}); got != "" {
				t.Errorf("Words of %q, %d: %q", said, fault, got)
			}
		}
	}
}

func checkNoShow(t *testing.T, l []string) {
	t.Helper()
	for _, fuel := range []int64{0, 1, 100, impl.MaxFuel, -1, impl.MaxFuel + 1} {
		if got := impl.Played(l, fuel); !sameShow(got, impl.Show{Fault: impl.FtKind}) {
			t.Errorf("%s with fuel %d: %s", shortList(l), fuel, showShow(got))
		}
	}
}

func TestPlaysThatAreNotScoped(t *testing.T) {
	pages := append(brokenPages(),
		"(do (let a 1)) (say a)", "(say 1) (say 2) (say q)", "(let a 1) (say (hget a a))", "(hidden a) (say a)", "(run (fn ((a b)) (let b 1)))", "(let a 1) (do (let b 1) (let b 2))", "(take (a a) (thing))", "(vars a) (take (a) (thing))", "(hidden p) (hidden p)", "(hidden p q p)",
		"(say 1) (leave)", "(say 1) (next)", "(while 1 (run (call (fn () (leave)))))", "(run (fn ((x 1)) (vars y)))", "(say 1) (vars a)", "(do (vars a))", "(if 1 (leave) (do))", "(for i i 2 (say i))", "(for i 0 i (say i))", "(say i) (for i 0 1 (do))",
	)
	for _, page := range pages {
		for _, around := range []string{"HERE", "(say 1) (do HERE)", "(say 1) (back 1) (do HERE)", "(if 0 (do HERE) (do))", "(run (fn () (do HERE)))", "(while 0 (run (fn () HERE)))"} {
			l := signsOf(t, strings.ReplaceAll(around, "HERE", page))
			if !impl.PlayOk(l) {
				t.Fatalf("%s: the test itself is wrong", page)
			}
			if !scopeSlowly(l).scoped {
				checkNoShow(t, l)
			}
		}
		checkNoShow(t, signsOf(t, page))
		checkNoShow(t, signsOf(t, "(say 1) "+page))
	}
}

func TestPlaysThatAreNone(t *testing.T) {
	play := signsOf(t, "(say 1) (let a 2) (say a)")
	for _, page := range []string{
		"a", "5", "'a'", "none", "+", "(", ")", "( )", "(+ 1 2)", "(call (fn ()))", "(fn ())", "(table)", "(say", "(say 1", "(say 1))", ")(", "(say)", "(say 1 2)", "(let a)", "(let let 1)", "(let 5 1)", "(take () (thing))", "(take a (thing))", "(vars 5)", "(hidden (p))", "(say (fn))", "(say (fn a))", "(say (fn ((a))))", "(say (+ 1))", "(say (table 1))", "(say (call))",
		"(if 1 (let a 1) (do))", "(while 1 (vars a))", "(for i 0 3 (take (a) 1))", "(for i 0 3)", "(for)", "(while)", "(hput p)", "(set)", "(leave 1)", "((say 1))", "(do 1)", "(back)", "(run)", "(put 1 2)", "(tput 1 2)", "(none)", "(a b c)", "(do (say 1) 2)",
	} {
		l := signsOf(t, page)
		for _, list := range [][]string{l, slices.Concat(play, l), slices.Concat(l, play), slices.Concat([]string{"(", "do"}, play, l, []string{")"})} {
			checkNoShow(t, list)
		}
	}
	for _, bad := range wrongSigns() {
		for _, list := range [][]string{{bad}, slices.Concat(play, []string{bad}), slices.Concat([]string{bad}, play), {"(", "say", bad, ")"}, {"(", "let", bad, "1", ")"}, {"(", bad, "1", ")"}, {"(", "say", "1", bad}} {
			checkNoShow(t, list)
		}
	}
	for _, l := range itemLists(t) {
		if len(l) > 0 && !impl.PlayOk(l) {
			checkNoShow(t, l)
		}
	}
	for _, n := range []int{impl.MaxSigns, 100000} {
		checkNoShow(t, within(n, "( do", "( say 1 )", ")"))
		checkNoShow(t, within(n, "( do", "", ""))
		checkNoShow(t, within(n, "(", "a", ")"))
		checkNoShow(t, slices.Repeat([]string{"(", "do", ")"}, n))
	}
	checkNoShow(t, within(impl.MaxDepth, "( do", "( say 1 )", ")"))
}

// playsToAsk are those that are Scoped of all written-out pages, and plays made
// up.
func playsToAsk(t *testing.T, made int) [][]string {
	out := madePlays(made)
	for _, c := range allCases() {
		out = append(out, signsOf(t, c.page))
	}
	for _, page := range scopePages() {
		if l := signsOf(t, page); impl.Scoped(l) {
			out = append(out, l)
		}
	}
	return out
}

// Plays made up are to end in each way, and to say something most often.
func TestMadePlays(t *testing.T) {
	ends := map[int64]int{}
	said := 0
	for _, l := range madePlays(1500) {
		if !impl.Scoped(l) {
			t.Fatalf("%s is not Scoped", shortPlay(l))
		}
		slow := slowPlayOf(l)
		for _, fuel := range []int64{4000, 60} {
			got, want := impl.Played(l, fuel), slow.played(fuel)
			if !sameShow(got, want) {
				t.Fatalf("%s with fuel %d: %s; read slowly %s", impl.ShowSigns(l), fuel, showShow(got), showShow(want))
			}
			ends[got.Fault]++
			said += len(got.Said)
		}
	}
	for fault := range int64(6) {
		if ends[fault] < 40 {
			t.Errorf("only %d end with %d", ends[fault], fault)
		}
	}
	if said < 10000 {
		t.Errorf("only %d were said", said)
	}
}

// Another sign at each place: other names, and words that make another form.
func TestPlaysWithOneSignChanged(t *testing.T) {
	scoped := 0
	for n, l := range playsToAsk(t, 60) {
		if len(l) > 150 {
			continue
		}
		for at := range l {
			for k, other := range []string{"a", "1", "none", "do", "+", "get", "say", "leave"} {
				if (n+at+k)%2 == 0 {
					continue
				}
				changed := slices.Clone(l)
				changed[at] = other
				if !impl.Scoped(changed) {
					if got := impl.Played(changed, 500); !sameShow(got, impl.Show{Fault: impl.FtKind}) {
						t.Errorf("%s: %s", shortPlay(changed), showShow(got))
					}
					continue
				}
				scoped++
				checkShow(t, changed, 500)
			}
		}
		if t.Failed() {
			return
		}
	}
	if scoped < 2000 {
		t.Errorf("only %d were Scoped", scoped)
	}
}

// Whatever stands within whatever stands within whatever: what is said, who is
// known, and how it goes on.
func TestPlaysWithinOneAnother(t *testing.T) {
	arounds := []string{
		"(do HERE (say 'd'))", "(do (let a 5) HERE (say a))", "(if a HERE (say 'e'))", "(for a 1 3 (do HERE (say a)))", "(while (< a 4) (do (set a (+ a 1)) HERE (say 'w')))", "(say (call (fn () HERE (back a))))", "(run (call (fn ((a 2)) HERE (set a 9)) none))", "(do HERE (take (a) (thing 8)) (say a))", "(do (hidden p) HERE (hput p b a))", "(do (let f (fn () HERE)) (set a 7) (run (call f)))",
	}
	insides := []string{"(say a)", "(back a)", "(set a (+ a 1))", "(if (< a 3) (next) (leave))", "(leave)", "(hput p b (join a 'h'))", "(say (hget p b))", "(say (+ a none))", "(run (call (fn (a) (say a)) (+ a 1)))"}
	put := func(around string, inside string) string { return strings.ReplaceAll(around, "HERE", inside) }
	scoped := 0
	for _, outer := range arounds {
		for _, middle := range arounds {
			for _, inner := range arounds {
				for _, inside := range insides {
					l := signsOf(t, "(hidden p) (let b (thing)) (let a 1) "+put(outer, put(middle, put(inner, inside)))+" (say a)")
					if !impl.Scoped(l) {
						continue
					}
					scoped++
					checkShow(t, l, 400)
				}
			}
			if t.Failed() {
				return
			}
		}
	}
	if scoped < 6000 {
		t.Errorf("only %d were Scoped", scoped)
	}
}

// Promise 10: more fuel says more, and what was said stays said; what does not
// end with FtFuel ends so with any fuel more.
func TestMoreFuelSaysMore(t *testing.T) {
	for _, l := range playsToAsk(t, 150) {
		whole := impl.Played(l, impl.MaxFuel)
		said := []string{}
		for fuel := range min(whole.Steps, 300) + 6 {
			got := impl.Played(l, fuel)
			if fuel >= whole.Steps && !sameShow(got, whole) {
				t.Fatalf("%s with fuel %d: %s; with more %s", shortPlay(l), fuel, showShow(got), showShow(whole))
			}
			if fuel < whole.Steps && (got.Fault != impl.FtFuel || got.Steps != fuel) {
				t.Fatalf("%s with fuel %d: %s", shortPlay(l), fuel, showShow(got))
			}
			if len(got.Said) < len(said) || !slices.Equal(got.Said[:len(said)], said) || len(got.Said) > len(whole.Said) || !slices.Equal(got.Said, whole.Said[:len(got.Said)]) {
				t.Fatalf("%s with fuel %d: %q were said, and then %q; in all %q", shortPlay(l), fuel, said, got.Said, whole.Said)
			}
			said = got.Said
		}
		for _, fuel := range []int64{whole.Steps, whole.Steps + 1, 2*whole.Steps + 1, impl.MaxFuel - 1} {
			if fuel >= whole.Steps && fuel <= impl.MaxFuel && whole.Fault != impl.FtFuel {
				if got := impl.Played(l, fuel); !sameShow(got, whole) {
					t.Fatalf("%s with fuel %d: %s; with more %s", shortPlay(l), fuel, showShow(got), showShow(whole))
				}
			}
		}
	}
}

func hasVars(l []string) bool { return len(l) > 1 && l[1] == "vars" }

// laterBy is a Show with so many Steps more ahead of it.
func laterBy(s impl.Show, steps int64) impl.Show {
	return impl.Show{Said: s.Said, Fault: s.Fault, Steps: s.Steps + steps}
}

// Promise 10: a play in a do, or in a fn that is called, says the same.
func TestAPlayWithinSaysTheSame(t *testing.T) {
	asked := 0
	for _, l := range playsToAsk(t, 300) {
		for _, fuel := range []int64{0, 1, 7, 40, 700} {
			want := impl.Played(l, fuel)
			in := func(ahead string, behind string, steps int64) {
				around := slices.Concat(signsOf(t, ahead), l, signsOf(t, behind))
				got := impl.Played(around, fuel+steps)
				if impl.PlayOk(around) && want.Fault != impl.FtMany && got.Fault != impl.FtMany {
					asked++
					if !sameShow(got, laterBy(want, steps)) {
						t.Fatalf("%s with fuel %d: %s; alone %s", shortPlay(around), fuel+steps, showShow(got), showShow(want))
					}
				}
			}
			in("(run (call (fn ()", ")))", 3)
			in("(do (run (call (fn (v w)", "))))", 4)
			in("(run (call (fn () (back (call (fn ()", ")))) (say 'no'))))", 6)
			if hasVars(l) {
				continue
			}
			in("(do", ")", 1)
			in("(do (do (do", ")))", 3)
			in("(if 1 (do", ") (do))", 3)
			in("(for x 0 1 (do", "))", 4)
			in("(run (call (fn () (do", "))))", 4)
		}
	}
	if asked < 10000 {
		t.Errorf("only %d were asked", asked)
	}
	// With too much at once, too, as long as it is of a kind that nothing around
	// it takes of.
	for _, page := range []string{"(while 1 (say 0))", "(for i 0 9000 (do))", "(while 1 (run (thing)))", "(while 1 (run (table)))", "(let f (fn (n) (say n) (run (call f (+ n 1))))) (run (call f 0))", "(while 1 (run (fn ())))"} {
		l := signsOf(t, page)
		want := laterBy(impl.Played(l, 19000), 1)
		if got := impl.Played(slices.Concat([]string{"(", "do"}, l, []string{")"}), 19001); !sameShow(got, want) || got.Fault != impl.FtMany {
			t.Errorf("%s in a do: %s; want %s", page, showShow(got), showShow(want))
		}
	}
}

// goesOn asks whether what stands behind a play is played.
func goesOn(l []string) bool {
	more := slices.Concat(l, []string{"(", "say", "'behind'", ")"})
	return slices.Contains(impl.Played(more, impl.MaxFuel).Said, "behind")
}

// Promise 10: two plays side by side say what both say, one behind the other.
func TestPlaysSideBySide(t *testing.T) {
	var some [][]string
	for n, l := range playsToAsk(t, 300) {
		if show := impl.Played(l, impl.MaxFuel); n%7 == 0 && !hasVars(l) && len(l) < 300 && show.Fault != impl.FtMany && show.Steps < 5000 {
			some = append(some, l)
		}
	}
	asked, behind := 0, 0
	for n, first := range some {
		goes := goesOn(first)
		a := impl.Played(first, impl.MaxFuel)
		for m := range 15 {
			second := some[(n*31+m*17)%len(some)]
			b := impl.Played(second, impl.MaxFuel)
			want := a
			if goes {
				behind++
				want = impl.Show{Said: slices.Concat(a.Said, b.Said), Fault: b.Fault, Steps: a.Steps + b.Steps}
			}
			// All names of the second one are others.
			both := slices.Concat(first, alphaOf(second).apart())
			apart := slices.Concat([]string{"(", "do"}, first, []string{")", "(", "do"}, second, []string{")"})
			later := laterBy(want, 1)
			if goes {
				later = laterBy(want, 2)
			}
			if got := impl.Played(both, impl.MaxFuel); got.Fault != impl.FtMany && !sameShow(got, want) {
				t.Fatalf("%s beside %s: %s; want %s", shortPlay(first), shortPlay(second), showShow(got), showShow(want))
			}
			if got := impl.Played(apart, impl.MaxFuel); got.Fault != impl.FtMany && !sameShow(got, later) {
				t.Fatalf("%s: %s; want %s", shortPlay(apart), showShow(got), showShow(later))
			}
			asked++
		}
	}
	if asked < 1000 || behind < 200 {
		t.Errorf("only %d were asked, and %d went on", asked, behind)
	}
}

// Promise 10: so it does by other names.
func TestAPlayByOtherNamesSaysTheSame(t *testing.T) {
	same, shadows := 0, 0
	for _, l := range playsToAsk(t, 500) {
		a := alphaOf(l)
		for n, other := range [][]string{a.apart(), a.crowded()} {
			if !impl.Scoped(other) {
				t.Fatalf("%s: the test itself is wrong: %s", shortPlay(l), shortPlay(other))
			}
			if slices.Equal(other, l) {
				same++
			}
			if len(namesSlowly(other)) < len(namesSlowly(l)) && n == 1 {
				shadows++
			}
			for _, fuel := range []int64{0, 5, 31, 200, 3000} {
				if got, want := impl.Played(other, fuel), impl.Played(l, fuel); !sameShow(got, want) {
					t.Fatalf("%s, by other names %s, with fuel %d: %s; want %s", shortPlay(l), shortPlay(other), fuel, showShow(got), showShow(want))
				}
			}
		}
	}
	if same > 600 || shadows < 500 {
		t.Errorf("%d have the same names, %d have less of them", same, shadows)
	}
	// Pages with one meaning each.
	for _, pages := range [][]string{
		{"(let a 1) (do (let b 2) (say b)) (say a)", "(let a 1) (do (let a 2) (say a)) (say a)", "(let zz 1) (do (let abcdefgh 2) (say abcdefgh)) (say zz)"},
		{"(let a 1) (say (call (fn (b) (back (+ b 1))) a))", "(let a 1) (say (call (fn (a) (back (+ a 1))) a))", "(let b 1) (say (call (fn (a) (back (+ a 1))) b))"},
		{"(let a 1) (for b 0 3 (say b)) (say a)", "(let a 1) (for a 0 3 (say a)) (say a)"},
		{"(hidden p) (let t (thing)) (hput p t 1) (do (hidden q) (hput q t 2) (say (hget q t))) (say (hget p t))", "(hidden p) (let t (thing)) (hput p t 1) (do (hidden p) (hput p t 2) (say (hget p t))) (say (hget p t))", "(hidden t) (let t (thing)) (hput t t 1) (do (hidden t) (hput t t 2) (say (hget t t))) (say (hget t t))"},
		{"(let f (fn ((x 1) (y x)) (let z y) (back (fn (w) (back (join x y z w)))))) (say (call (call f 5) 6))", "(let x (fn ((y 1) (x y)) (let w x) (back (fn (z) (back (join y x w z)))))) (say (call (call x 5) 6))"},
		{"(take (a b) (thing 1 2)) (do (take (c d) (thing b a)) (say (join c d)))", "(take (b a) (thing 1 2)) (do (take (c d) (thing a b)) (say (join c d)))", "(take (c d) (thing 1 2)) (let x d) (do (take (b a) (thing x c)) (say (join b a)))"},
	} {
		want := impl.Words(impl.Played(signsOf(t, pages[0]), 500))
		for _, page := range pages[1:] {
			if got := impl.Words(checkShow(t, signsOf(t, page), 500)); got != want || !strings.HasSuffix(got, " end") {
				t.Errorf("%s: %q; by other names %q", page, got, want)
			}
		}
	}
}

// Promise 21, for the functions of chapter 10, from here on.
func TestPlaysLeaveWhatIsGiven(t *testing.T) {
	for _, given := range append(playsToAsk(t, 100), scopeLists(t)...) {
		l, room := roomy(given)
		was := slices.Clone(room)
		for _, fuel := range []int64{-1, 0, 9, 300, impl.MaxFuel + 1} {
			first := impl.Played(l, fuel)
			kept := slices.Clone(first.Said)
			second := impl.Played(l, fuel)
			overwritten(second.Said)
			if !slices.Equal(room, was) || !slices.Equal(first.Said, kept) {
				t.Fatalf("%s: a Show shares memory with another one, or with what was given", shortPlay(l))
			}
			overwritten(l)
			if !slices.Equal(first.Said, kept) {
				t.Fatalf("%s: %q became %q", shortPlay(given), kept, first.Said)
			}
			copy(room, was)
			if again := impl.Played(l, fuel); !slices.Equal(again.Said, kept) || again.Fault != first.Fault || again.Steps != first.Steps {
				t.Fatalf("%s: %s, and again %s", shortPlay(l), showShow(first), showShow(again))
			}
		}
	}
}

func TestShowsLeaveWhatIsGiven(t *testing.T) {
	for _, given := range [][]string{nil, {}, {""}, {"a"}, {"a", "", "b"}, slices.Repeat([]string{"q"}, 200)} {
		for fault := int64(-1); fault < 8; fault++ {
			said, room := roomy(given)
			was := slices.Clone(room)
			s := impl.Show{Said: said, Fault: fault, Steps: 7}
			impl.Ended(s)
			words := impl.Words(s)
			if !slices.Equal(room, was) || s.Fault != fault || s.Steps != 7 {
				t.Fatalf("%q became %q", was, room)
			}
			overwritten(said)
			if again := impl.Words(impl.Show{Said: given, Fault: fault, Steps: 7}); again != words {
				t.Errorf("%q became %q", again, words)
			}
		}
	}
}

// What stands in the spare room behind a play is no part of it.
func TestPlaysDoNotReadTheSpareRoom(t *testing.T) {
	whole := signsOf(t, "(say 1) (say 2) (say a) (let a 3)")
	for n := range len(whole) + 1 {
		checkShow(t, whole[:n], 50)
	}
	if got := impl.Words(impl.Played(whole[:8], 50)); got != "1/2 end" {
		t.Error(got)
	}
	checkNoShow(t, whole[:12])
}

// What is asked again is answered again, whatever was asked between.
func TestPlaysKeepNothing(t *testing.T) {
	cases := allCases()
	for range 2 {
		for _, c := range cases {
			if got := impl.Played(signsOf(t, c.page), impl.MaxFuel); impl.Words(got) != c.words || got.Steps != c.steps {
				t.Fatalf("%s: %s; want %s", c.page, showShow(got), c.words)
			}
		}
		slices.Reverse(cases)
	}
}

// The line "play" of the document's chapter Ways.
func TestWhatEndsAPlayGivesUpByPanic(t *testing.T) {
	path := "../impl/l10_play.go"
	if !hasCall(t, path, "panic") {
		t.Error("nothing gives up by panic in the layer of the player")
	}
	caught := hasNode(t, path, func(n ast.Node) bool {
		later, is := n.(*ast.DeferStmt)
		if !is {
			return false
		}
		literal, is := later.Call.Fun.(*ast.FuncLit)
		if !is {
			return false
		}
		found := false
		ast.Inspect(literal, func(inner ast.Node) bool {
			if call, is := inner.(*ast.CallExpr); is {
				name, isName := call.Fun.(*ast.Ident)
				found = found || isName && name.Name == "recover"
			}
			return true
		})
		return found
	})
	if !caught {
		t.Error("no deferred function recovers in the layer of the player")
	}
}
