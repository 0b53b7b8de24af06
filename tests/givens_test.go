package tests

import (
	"slices"
	"strings"
)

// The document's words about what is given, as they stand there: the tests hold
// the program against these. The program goes through the signs; this fills the
// document's own lines with the items of a play as a tree, and writes that out.

// A filling is what stands for the words of a form: some items for each of them.
type filling map[string][]tree

func (f filling) fill(form tree) []tree {
	if with, is := f[form.sign]; is && !form.isList {
		return with
	}
	var within []tree
	for _, inner := range form.within {
		within = append(within, f.fill(inner)...)
	}
	return []tree{{sign: form.sign, isList: form.isList, within: within}}
}

var (
	givenFunctionTree = formTree("(fn (NAMES) IFS (do DEEDS))")
	ifNoneTree        = formTree("(if (= NAME none) (set NAME SUM) (do))")
)

func givenTree(n tree) tree {
	within := givenTrees(n.within)
	if n.head() != "fn" || !hasPairs(n) {
		return tree{n.sign, n.isList, within}
	}
	var names, ifs []tree
	for _, param := range within[1].within {
		if !param.isList {
			names = append(names, param)
			continue
		}
		names = append(names, param.within[0])
		ifs = append(ifs, filling{"NAME": param.within[:1], "SUM": param.within[1:]}.fill(ifNoneTree)...)
	}
	return filling{"NAMES": names, "IFS": ifs, "DEEDS": within[2:]}.fill(givenFunctionTree)[0]
}

func givenTrees(list []tree) []tree {
	var out []tree
	for _, n := range list {
		out = append(out, givenTree(n))
	}
	return out
}

func signsOfTrees(list []tree) []string {
	var out []string
	for _, n := range list {
		if !n.isList {
			out = append(out, n.sign)
			continue
		}
		out = append(out, "(")
		out = append(out, signsOfTrees(n.within)...)
		out = append(out, ")")
	}
	return out
}

func pairsWithin(n tree) int64 {
	count := int64(0)
	if n.head() == "fn" {
		for _, param := range n.within[1].within {
			if param.isList {
				count++
			}
		}
	}
	for _, inner := range n.within {
		count += pairsWithin(inner)
	}
	return count
}

// A givenAnswers is what the two functions of the chapter answer of one list.
type givenAnswers struct {
	count int64
	said  []string
}

func givenSlowly(l []string) givenAnswers {
	if !scopeSlowly(l).scoped {
		return givenAnswers{count: -1}
	}
	play := playTree(l)
	out := givenAnswers{pairsWithin(play), signsOfTrees(givenTrees(blockOf(play)))}
	if !playSlowly(out.said) {
		out.said = nil
	}
	return out
}

// A givenCase is a page, how many are given in it, what it is said again as, and
// what both say. X? Y; stands for (if (= X none) (set X Y) (do)).
type givenCase struct {
	page  string
	count int64
	again string
	words string
}

// againPage writes out what stands as X? Y; from the innermost one on.
func againPage(page string) string {
	for {
		mark := strings.LastIndex(page, "? ")
		if mark < 0 {
			return page
		}
		from := strings.LastIndexAny(page[:mark], " (") + 1
		to := mark + strings.Index(page[mark:], ";")
		name, sum := page[from:mark], page[mark+2:to]
		page = page[:from] + "(if (= " + name + " none) (set " + name + " " + sum + ") (do))" + page[to+1:]
	}
}

func paramCases() []givenCase {
	return []givenCase{
		// One, ahead of, between and behind plain NAMEs.
		{"(run (fn ((x 1))))", 1, "(run (fn (x) x? 1; (do)))", "end"},
		{"(say (call (fn ((x 7)) (back x))))", 1, "(say (call (fn (x) x? 7; (do (back x)))))", "7 end"},
		{"(say (call (fn ((x 7) y) (back (join x y))) none 2))", 1, "(say (call (fn (x y) x? 7; (do (back (join x y)))) none 2))", "72 end"},
		{"(say (call (fn (y (x 7)) (back (join x y))) 2))", 1, "(say (call (fn (y x) x? 7; (do (back (join x y)))) 2))", "72 end"},
		{"(say (call (fn (w (x 7) y) (back (join w x y))) 1))", 1, "(say (call (fn (w x y) x? 7; (do (back (join w x y)))) 1))", "17none end"},
		// Several.
		{"(say (call (fn ((x 7) (y 8)) (back (join x y)))))", 2, "(say (call (fn (x y) x? 7; y? 8; (do (back (join x y))))))", "78 end"},
		{"(say (call (fn ((y 7) (x 8)) (back (join x y)))))", 2, "(say (call (fn (y x) y? 7; x? 8; (do (back (join x y))))))", "87 end"},
		{"(say (call (fn ((x 7) y (z 8)) (back (join x y z)))))", 2, "(say (call (fn (x y z) x? 7; z? 8; (do (back (join x y z))))))", "7none8 end"},
		{"(say (call (fn (a (x 1) b (y 2) c (z 3) d) (back (join a x b y c z d))) 'a' 'x' 'b'))", 3, "(say (call (fn (a x b y c z d) x? 1; y? 2; z? 3; (do (back (join a x b y c z d)))) 'a' 'x' 'b'))", "axb2none3none end"},
		{"(say (call (fn ((e 1) (d 2) (c 3) (b 4) (a 5)) (back (join a b c d e))) none 7))", 5, "(say (call (fn (e d c b a) e? 1; d? 2; c? 3; b? 4; a? 5; (do (back (join a b c d e)))) none 7))", "54371 end"},
		// Fewer sums, as many, more, and none as one.
		{"(let f (fn ((x 1) (y 2)) (say (join x y)))) (run (call f)) (run (call f 8)) (run (call f 8 9)) (run (call f 8 9 7)) (run (call f none)) (run (call f none 9)) (run (call f 8 none)) (run (call f none none none))", 2,
			"(let f (fn (x y) x? 1; y? 2; (do (say (join x y))))) (run (call f)) (run (call f 8)) (run (call f 8 9)) (run (call f 8 9 7)) (run (call f none)) (run (call f none 9)) (run (call f 8 none)) (run (call f none none none))", "12/82/89/89/12/19/82/12 end"},
		// What is not none is given: 0, an empty text, the text none, a thing, a fn, a table.
		{"(let f (fn ((x 1)) (back x))) (say (call f 0)) (say (call f '')) (say (call f 'none')) (say (= 1 (call f (thing)))) (say (= 1 (call f (fn ())))) (say (= 1 (call f (table))))", 1,
			"(let f (fn (x) x? 1; (do (back x)))) (say (call f 0)) (say (call f '')) (say (call f 'none')) (say (= 1 (call f (thing)))) (say (= 1 (call f (fn ())))) (say (= 1 (call f (table))))", "0//none/0/0/0 end"},
		// Names of all lengths, and those that look like a word.
		{"(say (call (fn ((given 1) (abcdefgh 2) (v0 3) fns (none0 4) (f given)) (back (join given abcdefgh v0 fns none0 f)))))", 5, "(say (call (fn (given abcdefgh v0 fns none0 f) given? 1; abcdefgh? 2; v0? 3; none0? 4; f? given; (do (back (join given abcdefgh v0 fns none0 f))))))", "123none41 end"},
	}
}

func givenSumCases() []givenCase {
	return []givenCase{
		{"(say (call (fn ((x none)) (back x))))", 1, "(say (call (fn (x) x? none; (do (back x)))))", "none end"},
		{"(say (call (fn ((x 'fn')) (back x))))", 1, "(say (call (fn (x) x? 'fn'; (do (back x)))))", "fn end"},
		{"(say (call (fn ((x ' none ')) (back x))))", 1, "(say (call (fn (x) x? ' none '; (do (back x)))))", " none  end"},
		{"(let a 5) (let f (fn ((x a)) (back x))) (set a 6) (say (call f))", 1, "(let a 5) (let f (fn (x) x? a; (do (back x)))) (set a 6) (say (call f))", "6 end"},
		{"(let x 5) (say (call (fn ((x x)) (back x))))", 1, "(let x 5) (say (call (fn (x) x? x; (do (back x)))))", "none end"},
		// One that uses those ahead of it, those behind it, and one that is set by it.
		{"(say (call (fn (x (y (+ x 1)) (z (* y 2))) (back (join x y z))) 4))", 2, "(say (call (fn (x y z) y? (+ x 1); z? (* y 2); (do (back (join x y z)))) 4))", "4510 end"},
		{"(let f (fn ((x y) (y 5)) (back (join x y)))) (say (call f)) (say (call f none 3))", 2, "(let f (fn (x y) x? y; y? 5; (do (back (join x y))))) (say (call f)) (say (call f none 3))", "none5/33 end"},
		{"(say (call (fn ((x (call (fn () (set y 3) (back 1)))) (y 5)) (back (join x y)))))", 2, "(say (call (fn (x y) x? (call (fn () (set y 3) (back 1))); y? 5; (do (back (join x y))))))", "13 end"},
		{"(say (call (fn ((x 1) (y (call (fn () (set x none) (back 2))))) (back (join x y)))))", 2, "(say (call (fn (x y) x? 1; y? (call (fn () (set x none) (back 2))); (do (back (join x y))))))", "none2 end"},
		{"(say (call (fn (x (g (fn () (back x)))) (set x 5) (back (call g))) 1))", 1, "(say (call (fn (x g) g? (fn () (back x)); (do (set x 5) (back (call g)))) 1))", "5 end"},
		// One that says something, in order; and where it is given, nothing.
		{"(let s (fn (t) (say t) (back t))) (let f (fn ((x (call s 'x')) y (z (call s 'z'))) (say (join x y z)))) (run (call f)) (run (call f 1)) (run (call f none 2 3)) (run (call f 1 2 3))", 2,
			"(let s (fn (t) (say t) (back t))) (let f (fn (x y z) x? (call s 'x'); z? (call s 'z'); (do (say (join x y z))))) (run (call f)) (run (call f 1)) (run (call f none 2 3)) (run (call f 1 2 3))", "x/z/xnonez/z/1nonez/x/x23/123 end"},
		{"(let s (fn (t) (say t))) (say (call (fn ((x (call s 'x')) (y (call s 'y'))) (say 'in') (back (join x y))) (call s 'a')))", 2, "(let s (fn (t) (say t))) (say (call (fn (x y) x? (call s 'x'); y? (call s 'y'); (do (say 'in') (back (join x y)))) (call s 'a')))", "a/x/y/in/nonenone end"},
		// One that ends with a fault.
		{"(say 1) (say (call (fn ((x (+ 1 none))) (back 5)) 7)) (say (call (fn ((x (+ 1 none))) (say 2) (back 5))))", 2, "(say 1) (say (call (fn (x) x? (+ 1 none); (do (back 5))) 7)) (say (call (fn (x) x? (+ 1 none); (do (say 2) (back 5)))))", "1/5 kind"},
		{"(run (call (fn ((x (call (fn () (say 'a')))) (y " + over + ") (z (+ 1 none))) (say 'no'))))", 3, "(run (call (fn (x y z) x? (call (fn () (say 'a'))); y? " + over + "; z? (+ 1 none); (do (say 'no')))))", "a over"},
		{"(let f (fn (n (x (tget (table) n))) (say n))) (run (call f 1 2)) (run (call f (thing)))", 1, "(let f (fn (n x) x? (tget (table) n); (do (say n)))) (run (call f 1 2)) (run (call f (thing)))", "1 key"},
		// It knows nothing of the deeds, be it of a let or of a hidden.
		{"(let a 1) (say (call (fn ((x a)) (let a 2) (back x))))", 1, "(let a 1) (say (call (fn (x) x? a; (do (let a 2) (back x)))))", "1 end"},
		{"(hidden p) (let t (thing)) (hput p t 4) (say (call (fn ((x (hget p t))) (hidden p) (hput p t 5) (back (join x (hget p t))))))", 1, "(hidden p) (let t (thing)) (hput p t 4) (say (call (fn (x) x? (hget p t); (do (hidden p) (hput p t 5) (back (join x (hget p t)))))))", "45 end"},
		// Each form as one.
		{"(hidden p) (let t (thing 3)) (hput p t 9) (let m (table)) (tput m t 8) (say (call (fn ((a (+ 1 2)) (b (- 1 2)) (c (* 3 2)) (d (< 1 2)) (e (= 1 2)) (f (& 1 2)) (g (get t 0)) (h (join 1 none)) (i (tget m t)) (j (hget p t))) (back (join a b c d e f g h i j)))))", 10,
			"(hidden p) (let t (thing 3)) (hput p t 9) (let m (table)) (tput m t 8) (say (call (fn (a b c d e f g h i j) a? (+ 1 2); b? (- 1 2); c? (* 3 2); d? (< 1 2); e? (= 1 2); f? (& 1 2); g? (get t 0); h? (join 1 none); i? (tget m t); j? (hget p t); (do (back (join a b c d e f g h i j))))))", "3-16101231none89 end"},
	}
}

func givenDeedCases() []givenCase {
	return []givenCase{
		// None, and some.
		{"(say (call (fn ((x 1)))))", 1, "(say (call (fn (x) x? 1; (do))))", "none end"},
		{"(say (call (fn ((x 1)) (say x) (say 2) (set x 3) (say x))))", 1, "(say (call (fn (x) x? 1; (do (say x) (say 2) (set x 3) (say x)))))", "1/2/3/none end"},
		{"(say (call (fn ((x 1)) (do) (do (do)))))", 1, "(say (call (fn (x) x? 1; (do (do) (do (do))))))", "none end"},
		// A NAME of the PARAMs declared again, by a let, a take and a for.
		{"(let f (fn (x (y x)) (let x 9) (back y))) (say (call f 4))", 1, "(let f (fn (x y) y? x; (do (let x 9) (back y)))) (say (call f 4))", "4 end"},
		{"(say (call (fn ((x 1)) (let x 9) (back x))))", 1, "(say (call (fn (x) x? 1; (do (let x 9) (back x)))))", "9 end"},
		{"(say (call (fn ((x 1)) (say x) (let x x) (back x)) 5))", 1, "(say (call (fn (x) x? 1; (do (say x) (let x x) (back x))) 5))", "none/none end"},
		{"(say (call (fn ((x 1) (y (fn () (back x)))) (let x 9) (set x 8) (back (join x (call y))))))", 2, "(say (call (fn (x y) x? 1; y? (fn () (back x)); (do (let x 9) (set x 8) (back (join x (call y)))))))", "81 end"},
		{"(say (call (fn ((x 1) (y 2)) (take (y x) (thing 7 8)) (back (join x y))) 5 6))", 2, "(say (call (fn (x y) x? 1; y? 2; (do (take (y x) (thing 7 8)) (back (join x y)))) 5 6))", "87 end"},
		{"(say (call (fn ((x 1)) (for x 5 7 (say x)) (back x))))", 1, "(say (call (fn (x) x? 1; (do (for x 5 7 (say x)) (back x)))))", "5/6/1 end"},
		{"(say (call (fn ((x 1)) (do (let x 2) (say x)) (back x))))", 1, "(say (call (fn (x) x? 1; (do (do (let x 2) (say x)) (back x)))))", "2/1 end"},
		{"(let t (thing)) (say (call (fn ((x t)) (hidden x) (hput x x 6) (back (hget x x)))))", 1, "(let t (thing)) (say (call (fn (x) x? t; (do (hidden x) (hput x x 6) (back (hget x x))))))", "6 end"},
		// They leave by back, from within whatever.
		{"(say (call (fn ((x 1)) (back x) (say 'no'))))", 1, "(say (call (fn (x) x? 1; (do (back x) (say 'no')))))", "1 end"},
		{"(say (call (fn ((x 1)) (while x (do (for i 3 9 (if 1 (do (back (join x i))) (do))))) (say 'no'))))", 1, "(say (call (fn (x) x? 1; (do (while x (do (for i 3 9 (if 1 (do (back (join x i))) (do))))) (say 'no')))))", "13 end"},
		{"(say (call (fn ((x 1)) (for i 0 9 (do (if (= i 1) (next) (do)) (if (= i 3) (leave) (do)) (say i))) (back x))))", 1, "(say (call (fn (x) x? 1; (do (for i 0 9 (do (if (= i 1) (next) (do)) (if (= i 3) (leave) (do)) (say i))) (back x)))))", "0/2/1 end"},
		{"(run (call (fn ((x 1)) (say x) (say (thing)) (say 'no')))) (say 'no')", 1, "(run (call (fn (x) x? 1; (do (say x) (say (thing)) (say 'no'))))) (say 'no')", "1 kind"},
		// It keeps what it has.
		{"(let make (fn ((n 5)) (back (fn () (set n (+ n 1)) (back n))))) (let a (call make)) (let b (call make 1)) (run (call a)) (say (call a)) (say (call b))", 1, "(let make (fn (n) n? 5; (do (back (fn () (set n (+ n 1)) (back n)))))) (let a (call make)) (let b (call make 1)) (run (call a)) (say (call a)) (say (call b))", "7/2 end"},
		{"(let f (fn (n (acc 1)) (if (< n 2) (back acc) (back (call f (- n 1) (* acc n)))))) (say (call f 5))", 1, "(let f (fn (n acc) acc? 1; (do (if (< n 2) (back acc) (back (call f (- n 1) (* acc n))))))) (say (call f 5))", "120 end"},
		{"(let f (fn (n (m (call f (+ n 1)))) (say n))) (say 'a') (run (call f 0))", 1, "(let f (fn (n m) m? (call f (+ n 1)); (do (say n)))) (say 'a') (run (call f 0))", "a many"},
	}
}

func givenWithinCases() []givenCase {
	return []givenCase{
		// A fn within a fn, each of both given something or not.
		{"(say (call (call (fn ((x 1)) (back (fn ((y 2)) (back (join x y))))))))", 2, "(say (call (call (fn (x) x? 1; (do (back (fn (y) y? 2; (do (back (join x y))))))))))", "12 end"},
		{"(say (call (call (fn (x) (back (fn ((y 2)) (back (join x y))))) 7)))", 1, "(say (call (call (fn (x) (back (fn (y) y? 2; (do (back (join x y)))))) 7)))", "72 end"},
		{"(say (call (call (fn ((x 1)) (back (fn (y) (back (join x y)))))) 7))", 1, "(say (call (call (fn (x) x? 1; (do (back (fn (y) (back (join x y))))))) 7))", "17 end"},
		{"(say (call (fn () (vars a) (set a (fn ((x 3)) (back x))) (back (call a)))))", 1, "(say (call (fn () (vars a) (set a (fn (x) x? 3; (do (back x)))) (back (call a)))))", "3 end"},
		{"(say (call (fn ((x 1)) (back (call (fn (y) (vars z) (set z y) (back z)) x)))))", 1, "(say (call (fn (x) x? 1; (do (back (call (fn (y) (vars z) (set z y) (back z)) x))))))", "1 end"},
		// In a PARAM's SUM.
		{"(say (call (fn ((x (call (fn ((y 2)) (back (+ y 1)))))) (back x))))", 2, "(say (call (fn (x) x? (call (fn (y) (if (= y none) (set y 2) (do)) (do (back (+ y 1))))); (do (back x)))))", "3 end"},
		{"(say (call (call (fn ((f (fn ((x 4)) (back x)))) (back f)))))", 2, "(say (call (call (fn (f) f? (fn (x) (if (= x none) (set x 4) (do)) (do (back x))); (do (back f))))))", "4 end"},
		{"(say (call (fn ((x (call (fn ((x (call (fn ((x 6)) (back x))))) (back x))))) (back x))))", 3, "(say (call (fn (x) x? (call (fn (x) (if (= x none) (set x (call (fn (x) (if (= x none) (set x 6) (do)) (do (back x))))) (do)) (do (back x)))); (do (back x)))))", "6 end"},
		{"(say (call (fn ((x (+ 1 (call (fn (y) (back y)) 2))) (z (thing (fn ((w 1))) x))) (back (join x (get z 1))))))", 3, "(say (call (fn (x z) x? (+ 1 (call (fn (y) (back y)) 2)); z? (thing (fn (w) (if (= w none) (set w 1) (do)) (do)) x); (do (back (join x (get z 1)))))))", "33 end"},
		// In a call, as what is called and as what it is given.
		{"(say (call (fn (f (x 2)) (back (call f x))) (fn (n (m 3)) (back (join n m)))))", 2, "(say (call (fn (f x) x? 2; (do (back (call f x)))) (fn (n m) m? 3; (do (back (join n m))))))", "23 end"},
		{"(say (call (call (fn () (back (fn ((x 1)) (back x))))) (call (fn ((x none)) (back x)))))", 2, "(say (call (call (fn () (back (fn (x) x? 1; (do (back x)))))) (call (fn (x) x? none; (do (back x))))))", "1 end"},
		// In a for and in a while, in their sums and in their DEED.
		{"(for i (call (fn ((x 1)) (back x))) (call (fn ((x 3)) (back x))) (say (call (fn ((x i)) (back (join x i))))))", 3, "(for i (call (fn (x) x? 1; (do (back x)))) (call (fn (x) x? 3; (do (back x)))) (say (call (fn (x) x? i; (do (back (join x i)))))))", "11/22 end"},
		{"(let t (thing)) (for i 0 3 (put t i (fn ((x i)) (set i (+ i 1)) (back x)))) (say (call (get t 1))) (say (call (get t 1))) (say (call (get t 2) 9)) (say (call (get t 2)))", 1, "(let t (thing)) (for i 0 3 (put t i (fn (x) x? i; (do (set i (+ i 1)) (back x))))) (say (call (get t 1))) (say (call (get t 1))) (say (call (get t 2) 9)) (say (call (get t 2)))", "1/2/9/3 end"},
		{"(let n 0) (while (< (call (fn ((x n)) (back x))) 3) (do (let f (fn ((x 1)) (set n (+ n x)))) (run (call f)) (if (= n 2) (next) (do)) (say n))) (say 'z')", 2, "(let n 0) (while (< (call (fn (x) x? n; (do (back x)))) 3) (do (let f (fn (x) x? 1; (do (set n (+ n x))))) (run (call f)) (if (= n 2) (next) (do)) (say n))) (say 'z')", "1/3/z end"},
		// In each other form that has a sum or a deed.
		{"(let a (fn ((x 1)))) (set a (fn ((x 2)))) (take (b) (thing (fn ((x 3) (y 4))))) (put (thing) 0 (fn ((x 5)))) (tput (table) (thing) (fn ((x 6)))) (run (fn ((x 7)))) (if (= (fn ((x 8))) 1) (run (fn ((x 9)))) (run (fn ((x 10))))) (back (fn ((x 11))))", 11,
			"(let a (fn (x) x? 1; (do))) (set a (fn (x) x? 2; (do))) (take (b) (thing (fn (x y) x? 3; y? 4; (do)))) (put (thing) 0 (fn (x) x? 5; (do))) (tput (table) (thing) (fn (x) x? 6; (do))) (run (fn (x) x? 7; (do))) (if (= (fn (x) x? 8; (do)) 1) (run (fn (x) x? 9; (do))) (run (fn (x) x? 10; (do)))) (back (fn (x) x? 11; (do)))", "end"},
		{"(hidden p) (let t (thing)) (hput p t (fn ((x 5)) (back x))) (say (call (hget p t))) (say (call (tget (call (fn ((m (table))) (tput m t (fn ((y 6)) (back y))) (back m))) t)))", 3,
			"(hidden p) (let t (thing)) (hput p t (fn (x) x? 5; (do (back x)))) (say (call (hget p t))) (say (call (tget (call (fn (m) m? (table); (do (tput m t (fn (y) y? 6; (do (back y)))) (back m)))) t)))", "5/6 end"},
		{"(say (join (call (fn ((x 1)) (back x))) (& (call (fn ((x 2)) (back x))) (- (call (fn ((x 9)) (back x))) (* 1 (call (fn ((x 6)) (back x))))))))", 4, "(say (join (call (fn (x) x? 1; (do (back x)))) (& (call (fn (x) x? 2; (do (back x)))) (- (call (fn (x) x? 9; (do (back x)))) (* 1 (call (fn (x) x? 6; (do (back x)))))))))", "123 end"},
		// Beside each other, and beside what stays as it is.
		{"(vars a) (set a 1) (run (fn ((x 1)))) (say a) (run (fn (x) (back x))) (run (fn ((y 2))))", 2, "(vars a) (set a 1) (run (fn (x) x? 1; (do))) (say a) (run (fn (x) (back x))) (run (fn (y) y? 2; (do)))", "1 end"},
		{"(do (do (let f (fn ((x 1)) (back x))) (say (call f))) (let f (fn (x) (back x))) (say (call f)))", 1, "(do (do (let f (fn (x) x? 1; (do (back x)))) (say (call f))) (let f (fn (x) (back x))) (say (call f)))", "1/none end"},
	}
}

func givenCases() []givenCase {
	return slices.Concat(paramCases(), givenSumCases(), givenDeedCases(), givenWithinCases())
}

// nothingGiven are pages that are Scoped and have no (NAME SUM).
func nothingGiven() []string {
	return slices.Concat(oldTongue(), []string{
		"(run (fn ()))", "(run (fn (x) (back x)))", "(run (fn (x y z)))", "(run (fn () (back (fn (a b) (back (+ a b))))))", "(say 'fn')", "(say (& ' fn ' 'none'))", "(let given 1) (say given)",
		"(let f (fn (x y) (if (= y none) (set y x) (do)) (do (let x 9) (back y)))) (say (call f 4))", "(take (a b) (thing 1 2)) (say (join a b))", "(take (x) (thing))", "(for i 0 3 (say i))", "(hidden p) (let t (thing)) (hput p t 1) (say (hget p t))",
		"(run (call (fn (a) (back a)) (thing 1 2)))", "(while 1 (do (let a (fn (b) (say b))) (leave)))",
	})
}
