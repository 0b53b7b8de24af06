package tests

import (
	"slices"
	"strings"
)

// The document's words about what is put together, as they stand there: the
// tests hold the program against these. The program lets closures say the signs;
// this takes one SUM after the other from the end of a join, a tree, and fills
// the document's own lines.

var (
	noSumsTree  = formTree("''")
	oneMoreTree = formTree("(& WITHOUT SUM)")
)

func unjoinedTree(n tree) tree {
	switch {
	case n.head() != "join":
		return tree{n.sign, n.isList, unjoinedTrees(n.within)}
	case len(n.within) == 1:
		return noSumsTree
	}
	last := len(n.within) - 1
	without, sum := unjoinedTree(tree{n.sign, n.isList, n.within[:last]}), unjoinedTree(n.within[last])
	return filling{"WITHOUT": {without}, "SUM": {sum}}.fill(oneMoreTree)[0]
}

func unjoinedTrees(list []tree) []tree {
	var out []tree
	for _, n := range list {
		out = append(out, unjoinedTree(n))
	}
	return out
}

// A joinAnswers is what the two functions of the chapter answer of one list.
type joinAnswers struct {
	count int64
	said  []string
}

func unjoinedSlowly(l []string) joinAnswers {
	if !scopeSlowly(l).scoped {
		return joinAnswers{count: -1}
	}
	play := playTree(l)
	out := joinAnswers{headsIn(play, "join"), signsOfTrees(unjoinedTrees(blockOf(play)))}
	if !playSlowly(out.said) {
		out.said = nil
	}
	return out
}

// A joinCase is a page, how many joins there are in it, what it is said again
// as, and what both say. [A | B] stands for what is said of (join A B).
type joinCase struct {
	page  string
	count int64
	again string
	words string
}

// chainPage writes out what stands as [A | B], from the innermost one on.
func chainPage(page string) string {
	for {
		from := strings.LastIndex(page, "[")
		if from < 0 {
			return page
		}
		to := from + strings.Index(page[from:], "]")
		chain := "''"
		if inside := page[from+1 : to]; inside != "" {
			for _, sum := range strings.Split(inside, " | ") {
				chain = "(& " + chain + " " + sum + ")"
			}
		}
		page = page[:from] + chain + page[to+1:]
	}
}

// qText is a text of so many bytes.
func qText(length int) string { return "'" + strings.Repeat("q", length) + "'" }

// How many SUMs and of which kind, written out in full where it is new.
func joinSumCases() []joinCase {
	return []joinCase{
		{"(say (join))", 1, "(say '')", " end"},
		{"(say (join 1))", 1, "(say (& '' 1))", "1 end"},
		{"(say (join 'a' 2))", 1, "(say (& (& '' 'a') 2))", "a2 end"},
		{"(say (join 'a' 1 none))", 1, "(say (& (& (& '' 'a') 1) none))", "a1none end"},
		{"(say (join 3 1 2 1))", 1, "(say (& (& (& (& '' 3) 1) 2) 1))", "3121 end"},
		{"(say (join 1 2 3 4 5 6 7 8 9 0))", 1, "(say [1 | 2 | 3 | 4 | 5 | 6 | 7 | 8 | 9 | 0])", "1234567890 end"},
		// A number, a text or none alone is a text, then.
		{"(say (= (join 1) 1)) (say (= (join 1) '1')) (say (= (join none) 'none')) (say (= (join) '')) (say (= (join 'a') 'a'))", 5, "(say (= [1] 1)) (say (= [1] '1')) (say (= [none] 'none')) (say (= [] '')) (say (= ['a'] 'a'))", "0/1/1/1/1 end"},
		{"(say (+ 1 (join 2)))", 1, "(say (+ 1 (& '' 2)))", "kind"},
		{"(say (join -5 0 999999999 -999999999))", 1, "(say [-5 | 0 | 999999999 | -999999999])", "-50999999999-999999999 end"},
		{"(say (join '' ' ' '' '-' ''))", 1, "(say ['' | ' ' | '' | '-' | ''])", " - end"},
		{"(say (join 'join' ' join 1 ' '1 - join'))", 1, "(say ['join' | ' join 1 ' | '1 - join'])", "join join 1 1 - join end"},
		{"(let a 7) (let joined 8) (say (join a joined a b)) (let b 'b')", 1, "(let a 7) (let joined 8) (say [a | joined | a | b]) (let b 'b')", "787none end"},
		// Each form as one.
		{"(hidden p) (let t (thing 3)) (hput p t 9) (let m (table)) (tput m t 8) (say (join (+ 1 2) (- 1 2) (* 3 2) (< 1 2) (= 1 2) (& 1 2) (get t 0) (tget m t) (hget p t) (call (fn (x) (back x)) 4)))", 1,
			"(hidden p) (let t (thing 3)) (hput p t 9) (let m (table)) (tput m t 8) (say [(+ 1 2) | (- 1 2) | (* 3 2) | (< 1 2) | (= 1 2) | (& 1 2) | (get t 0) | (tget m t) | (hget p t) | (call (fn (x) (back x)) 4)])", "3-1610123894 end"},
		// No text: a thing, a fn, a table, at each place.
		{"(say 1) (say (join (thing)))", 1, "(say 1) (say (& '' (thing)))", "1 kind"},
		{"(say 1) (say (join 'a' (fn ()) 'b'))", 1, "(say 1) (say ['a' | (fn ()) | 'b'])", "1 kind"},
		{"(say 1) (say (join 'a' 'b' (table)))", 1, "(say 1) (say ['a' | 'b' | (table)])", "1 kind"},
		{"(say 1) (run (join (table) (thing)))", 1, "(say 1) (run [(table) | (thing)])", "1 kind"},
		// One that says something, once and in order.
		{"(let f (fn (x) (say x) (back (* x x)))) (say (join (call f 3) '-' (call f 4) (call f 2)))", 1, "(let f (fn (x) (say x) (back (* x x)))) (say [(call f 3) | '-' | (call f 4) | (call f 2)])", "3/4/2/9-164 end"},
		{"(let n 0) (let f (fn () (set n (+ n 1)) (back n))) (say (join n (call f) n (call f) n))", 1, "(let n 0) (let f (fn () (set n (+ n 1)) (back n))) (say [n | (call f) | n | (call f) | n])", "01122 end"},
		// A fault ahead of, at and behind the one that is no text.
		{"(let f (fn (x) (say x) (back x))) (say (join (call f 1) " + over + " (thing) (call f 2)))", 1, "(let f (fn (x) (say x) (back x))) (say [(call f 1) | " + over + " | (thing) | (call f 2)])", "1 over"},
		{"(let f (fn (x) (say x) (back x))) (say (join (call f 1) (thing " + over + ") (call f 2)))", 1, "(let f (fn (x) (say x) (back x))) (say [(call f 1) | (thing " + over + ") | (call f 2)])", "1 over"},
		{"(let f (fn (x) (say x) (back x))) (say (join (call f 1) (thing) (call f 2) " + over + "))", 1, "(let f (fn (x) (say x) (back x))) (say [(call f 1) | (thing) | (call f 2) | " + over + "])", "1 kind"},
		{"(let f (fn (x) (say x) (back x))) (say (join (call f 1) (tget (table) (thing)) (call f (fn ()))))", 1, "(let f (fn (x) (say x) (back x))) (say [(call f 1) | (tget (table) (thing)) | (call f (fn ()))])", "1 key"},
		{"(let f (fn (x) (say x) (back (call f (+ x 1))))) (say (join 1 (call f 38) (thing)))", 1, "(let f (fn (x) (say x) (back (call f (+ x 1))))) (say [1 | (call f 38) | (thing)])", "38/39/40/41/42/43/44/45/46/47/48/49/50/51/52/53/54/55/56/57/58/59/60/61/62/63/64/65/66/67/68/69/70/71/72/73/74/75/76/77 many"},
	}
}

// Texts that are just 60 bytes long, and one more.
func joinLengthCases() []joinCase {
	full := strings.Repeat("q", 60)
	return []joinCase{
		{"(say (join " + qText(60) + "))", 1, "(say [" + qText(60) + "])", full + " end"},
		{"(say (join '' " + qText(60) + " '' (join)))", 2, "(say ['' | " + qText(60) + " | '' | ''])", full + " end"},
		{"(say (join " + qText(59) + " 'q'))", 1, "(say [" + qText(59) + " | 'q'])", full + " end"},
		{"(say (join " + qText(60) + " 'q'))", 1, "(say [" + qText(60) + " | 'q'])", "over"},
		{"(say (join 'q' " + qText(60) + "))", 1, "(say ['q' | " + qText(60) + "])", "over"},
		{"(say (join " + qText(20) + " " + qText(20) + " " + qText(20) + "))", 1, "(say [" + qText(20) + " | " + qText(20) + " | " + qText(20) + "])", full + " end"},
		{"(say (join " + qText(20) + " " + qText(21) + " " + qText(20) + "))", 1, "(say [" + qText(20) + " | " + qText(21) + " | " + qText(20) + "])", "over"},
		{"(say (join " + qText(56) + " none))", 1, "(say [" + qText(56) + " | none])", full[:56] + "none end"},
		{"(say (join " + qText(57) + " none))", 1, "(say [" + qText(57) + " | none])", "over"},
		{"(say (join " + qText(50) + " -999999999))", 1, "(say [" + qText(50) + " | -999999999])", full[:50] + "-999999999 end"},
		{"(say (join " + qText(51) + " -999999999))", 1, "(say [" + qText(51) + " | -999999999])", "over"},
		// Too long ahead of, and behind, one that says something, that is no text, or that ends with a fault.
		{"(let f (fn (x) (say x) (back x))) (say (join " + qText(60) + " (call f 1) (call f 2)))", 1, "(let f (fn (x) (say x) (back x))) (say [" + qText(60) + " | (call f 1) | (call f 2)])", "1 over"},
		{"(say 1) (say (join " + qText(60) + " 'q' (thing)))", 1, "(say 1) (say [" + qText(60) + " | 'q' | (thing)])", "1 over"},
		{"(say 1) (say (join " + qText(60) + " (thing) 'q'))", 1, "(say 1) (say [" + qText(60) + " | (thing) | 'q'])", "1 kind"},
		{"(say 1) (say (join " + qText(60) + " 'q' (tget (table) (thing))))", 1, "(say 1) (say [" + qText(60) + " | 'q' | (tget (table) (thing))])", "1 over"},
		{"(say 1) (say (join " + qText(60) + " (tget (table) (thing)) 'q'))", 1, "(say 1) (say [" + qText(60) + " | (tget (table) (thing)) | 'q'])", "1 key"},
		// Within another one.
		{"(say (join " + qText(30) + " (join " + qText(15) + " " + qText(15) + ")))", 2, "(say [" + qText(30) + " | [" + qText(15) + " | " + qText(15) + "]])", full + " end"},
		{"(say (join " + qText(30) + " (join " + qText(15) + " " + qText(16) + ")))", 2, "(say [" + qText(30) + " | [" + qText(15) + " | " + qText(16) + "]])", "over"},
		{"(let s '') (let n 0) (while 1 (do (set s (join s 'q')) (set n (+ n 1)) (if (= n 60) (say s) (do))))", 1, "(let s '') (let n 0) (while 1 (do (set s [s | 'q']) (set n (+ n 1)) (if (= n 60) (say s) (do))))", full + " over"},
	}
}

// A joinPlace is a play with a sum HERE, told by the form that it stands in.
type joinPlace struct{ form, page string }

// joinPlaces have each place where a sum may stand.
func joinPlaces() []joinPlace {
	return []joinPlace{
		{"say", "(say HERE)"}, {"let", "(let a HERE) (say a)"}, {"set", "(let a 1) (set a HERE) (say a)"}, {"take", "(say 1) (take (a b) HERE)"}, {"take", "(take (a b) (thing HERE 2)) (say (& a b))"}, {"take", "(take (a b) (thing 1 HERE)) (say (& a b))"},
		{"param", "(say (call (fn ((x HERE)) (back x))))"}, {"param", "(say (call (fn (w (x HERE) (y x)) (back (& x y))) 1))"}, {"param", "(say (call (fn ((x 1) (y HERE)) (back (& x y))) 5))"}, {"param", "(say (call (fn ((x HERE)) (back x)) 5))"},
		{"call", "(say 1) (run (call HERE))"}, {"call", "(say (call (fn (x y) (back (& x y))) HERE 2))"}, {"call", "(say (call (fn (x y) (back (& x y))) 1 HERE))"}, {"call", "(say 1) (run (call 5 HERE))"}, {"call", "(say (call (fn (x) (back x)) 1 HERE))"},
		{"thing", "(say (get (thing HERE) 0))"}, {"thing", "(say (get (thing HERE 1 2) 0))"}, {"thing", "(say (get (thing 1 HERE 2) 1))"}, {"thing", "(say (get (thing 1 2 HERE) 2))"},
		{"get", "(say 1) (run (get HERE 0))"}, {"get", "(let t (thing 1)) (put t 'a' 2) (put t 'ab' 3) (put t '' 4) (say (get t HERE))"},
		{"tget", "(say 1) (run (tget HERE (thing)))"}, {"tget", "(say 1) (run (tget (table) HERE))"}, {"hget", "(hidden p) (say 1) (run (hget p HERE))"},
		{"if", "(say 1) (if HERE (say 2) (say 3))"}, {"if", "(if (= HERE 'ab') (say 2) (say 3))"}, {"if", "(if 1 (say HERE) (say 3))"}, {"if", "(if 0 (say 2) (say HERE))"}, {"if", "(if 0 (say HERE) (say 3))"},
		{"while", "(say 1) (while HERE (leave))"}, {"while", "(let n 0) (while (= (= n 2) (= HERE 'no')) (do (set n (+ n 1)) (say n)))"}, {"while", "(let n 0) (while (< n 2) (do (set n (+ n 1)) (say HERE)))"}, {"while", "(while 1 (do (say HERE) (leave) (say HERE)))"},
		{"for", "(say 1) (for i HERE 2 (say i))"}, {"for", "(say 1) (for i 0 HERE (say i))"}, {"for", "(for i (= HERE 'ab') 2 (say i))"}, {"for", "(for i 0 (+ 1 (= HERE 'ab')) (say i))"}, {"for", "(for i 0 2 (do (say i) (say HERE)))"}, {"for", "(for i 0 2 (do (if i (next) (do)) (say HERE)))"},
		{"back", "(say (call (fn () (back HERE) (say 'no'))))"}, {"back", "(say 1) (back HERE) (say 'no')"}, {"back", "(say (call (fn () (while 1 (do (back HERE))))))"},
		{"put", "(say 1) (put HERE 0 1)"}, {"put", "(let t (thing)) (put t HERE 5) (say (get t 'ab')) (say (get t ''))"}, {"put", "(let t (thing)) (put t 'k' HERE) (say (get t 'k'))"},
		{"hput", "(hidden p) (say 1) (hput p HERE 1)"}, {"hput", "(hidden p) (let t (thing)) (hput p t HERE) (say (hget p t))"},
		{"tput", "(say 1) (tput HERE (thing) 1)"}, {"tput", "(say 1) (tput (table) HERE 1)"}, {"tput", "(let m (table)) (let t (thing)) (tput m t HERE) (say (tget m t))"},
		{"run", "(run HERE) (say 1)"}, {"do", "(do (do (say HERE)) (say HERE))"},
		{"+", "(say 1) (say (+ HERE 1))"}, {"+", "(say 1) (say (+ 1 HERE))"}, {"-", "(say 1) (say (- HERE 1))"}, {"-", "(say 1) (say (- 1 HERE))"}, {"*", "(say 1) (say (* HERE 1))"}, {"*", "(say 1) (say (* 1 HERE))"}, {"<", "(say 1) (say (< HERE 1))"}, {"<", "(say 1) (say (< 1 HERE))"},
		{"=", "(say (= HERE 'ab'))"}, {"=", "(say (= '' HERE))"}, {"&", "(say (& HERE 'z'))"}, {"&", "(say (& 'z' HERE))"}, {"&", "(say (& (& 'x' HERE) (& HERE 'z')))"},
		{"fn", "(say (call (fn () (back HERE))))"}, {"fn", "(let f (fn (n) (vars v) (set v HERE) (back (& n v)))) (say (call f 1)) (say (call f 2))"}, {"fn", "(say (call (call (fn () (back (fn () (back HERE)))))))"},
		// Within another join, at each place, and in a fn that is within one.
		{"join", "(say (join HERE))"}, {"join", "(say (join HERE 'y' 'z'))"}, {"join", "(say (join 'x' HERE 'z'))"}, {"join", "(say (join 'x' 'y' HERE))"}, {"join", "(say (join HERE HERE))"}, {"join", "(say (join 'x' (join (join HERE) 'y' HERE) HERE))"}, {"join", "(say (join 'x' (call (fn (n) (back HERE)) 5) 'z'))"}, {"join", "(say (join (call (fn ((n HERE)) (let m HERE) (say m) (back n)))))"}, {"join", "(say (join 'x' (fn () (back HERE)) 'z'))"}, {"join", "(say (join 1 (get (thing 1 HERE) 1) (& HERE 2)))"},
	}
}

// joinPlaceCases are some of these, written out with what they say.
func joinPlaceCases() []joinCase {
	return []joinCase{
		{"(let a (join 'x' 1)) (set a (join a a)) (say a)", 2, "(let a ['x' | 1]) (set a [a | a]) (say a)", "x1x1 end"},
		{"(take (a b) (thing (join 1 2) (join))) (say a) (say b)", 2, "(take (a b) (thing [1 | 2] [])) (say a) (say b)", "12/ end"},
		{"(say 1) (take (a) (join (thing 1)))", 1, "(say 1) (take (a) [(thing 1)])", "1 kind"},
		{"(say (call (fn ((x (join 'a' 'b')) (y (join x x))) (back (join y x)))))", 3, "(say (call (fn ((x ['a' | 'b']) (y [x | x])) (back [y | x]))))", "ababab end"},
		{"(say (call (fn (x y) (back (join y x))) (join 1 2) (join 3)))", 3, "(say (call (fn (x y) (back [y | x])) [1 | 2] [3]))", "312 end"},
		{"(say 1) (run (call (join 'f')))", 1, "(say 1) (run (call (& '' 'f')))", "1 kind"},
		{"(let t (thing)) (put t (join 'k' 1) (join 'v' 2)) (say (get t 'k1')) (say (get t (join 'k' (+ 0 1))))", 3, "(let t (thing)) (put t ['k' | 1] ['v' | 2]) (say (get t 'k1')) (say (get t ['k' | (+ 0 1)]))", "v2/v2 end"},
		{"(hidden p) (let t (thing)) (let m (table)) (hput p t (join 'h' 1)) (tput m t (join 't' 1)) (say (join (hget p t) (tget m t))) (say (hget p (join)))", 4, "(hidden p) (let t (thing)) (let m (table)) (hput p t ['h' | 1]) (tput m t ['t' | 1]) (say [(hget p t) | (tget m t)]) (say (hget p []))", "h1t1 kind"},
		{"(say 1) (if (join 1) (say 2) (say 3))", 1, "(say 1) (if [1] (say 2) (say 3))", "1 kind"},
		{"(if (= (join 1 2) '12') (say (join 'y')) (say (join 'n' (thing))))", 3, "(if (= [1 | 2] '12') (say ['y']) (say ['n' | (thing)]))", "y end"},
		{"(let s '') (while (= (= s 'aaa') 0) (do (set s (join s 'a')) (say (join s (join '-' s)))))", 3, "(let s '') (while (= (= s 'aaa') 0) (do (set s [s | 'a']) (say [s | ['-' | s]])))", "a-a/aa-aa/aaa-aaa end"},
		{"(for i 0 3 (say (join i (join i) (join i i))))", 3, "(for i 0 3 (say [i | [i] | [i | i]]))", "0000/1111/2222 end"},
		{"(say 1) (for i (join 0) 3 (say i))", 1, "(say 1) (for i [0] 3 (say i))", "1 kind"},
		{"(for i 0 9 (do (if (= (join i) '1') (next) (do)) (if (= (join i i) '33') (leave) (do)) (say (join i))))", 3, "(for i 0 9 (do (if (= [i] '1') (next) (do)) (if (= [i | i] '33') (leave) (do)) (say [i])))", "0/2 end"},
		{"(back (join 1 2)) (say (join))", 2, "(back [1 | 2]) (say [])", "end"},
		{"(vars a) (set a (join 1)) (say (call (fn () (vars b) (set b (join a 2)) (back b))))", 2, "(vars a) (set a [1]) (say (call (fn () (vars b) (set b [a | 2]) (back b))))", "12 end"},
		{"(tput (table) (thing) (join)) (put (thing) (join) (join 1)) (run (join 1 (join)))", 5, "(tput (table) (thing) []) (put (thing) [] [1]) (run [1 | []])", "end"},
		{"(let f (fn (x (sep '-')) (back (join x sep x)))) (say (call f 1)) (say (call f 2 (join ' ' 'k')))", 2, "(let f (fn (x (sep '-')) (back [x | sep | x]))) (say (call f 1)) (say (call f 2 [' ' | 'k']))", "1-1/2 k2 end"},
	}
}

// Joins within joins and beside each other.
func joinWithinCases() []joinCase {
	return []joinCase{
		{"(say (join 'a' (join 1) 2))", 2, "(say (& (& (& '' 'a') (& '' 1)) 2))", "a12 end"},
		{"(say (join (join 1 2) 3 4))", 2, "(say (& (& (& '' (& (& '' 1) 2)) 3) 4))", "1234 end"},
		{"(say (join 1 2 (join 3 4)))", 2, "(say (& (& (& '' 1) 2) (& (& '' 3) 4)))", "1234 end"},
		{"(say (join (join)))", 2, "(say (& '' ''))", " end"},
		{"(say (join (join) (join) (join)))", 4, "(say (& (& (& '' '') '') ''))", " end"},
		{"(say (join (join (join (join 1)))))", 4, "(say (& '' (& '' (& '' (& '' 1)))))", "1 end"},
		{"(say (join (join (join (join 1) 2) 3) 4))", 4, "(say [[[[1] | 2] | 3] | 4])", "1234 end"},
		{"(say (join 1 (join 2 (join 3 (join 4)))))", 4, "(say [1 | [2 | [3 | [4]]]])", "1234 end"},
		{"(say (join 1 (join 2 (join 3) 4) 5))", 3, "(say [1 | [2 | [3] | 4] | 5])", "12345 end"},
		{"(say (join (join 1) (join 2 3) (join 4)))", 4, "(say [[1] | [2 | 3] | [4]])", "1234 end"},
		{"(say (join (& 1 (join 2)) (+ 3 4) (& (join 5 6) (join))))", 4, "(say [(& 1 [2]) | (+ 3 4) | (& [5 | 6] [])])", "12756 end"},
		// In a fn that is within one.
		{"(say (join 'a' (call (fn (x) (back (join x (join x)))) 'b') 'c'))", 3, "(say ['a' | (call (fn (x) (back [x | [x]])) 'b') | 'c'])", "abbc end"},
		{"(let f none) (say (join 'a' (call (fn () (set f (fn (y) (back (join y '-' y)))) (back (call f 1)))) (call f 2)))", 2, "(let f none) (say ['a' | (call (fn () (set f (fn (y) (back [y | '-' | y]))) (back (call f 1)))) | (call f 2)])", "a1-12-2 end"},
		{"(say (join (call (fn ((x (join 1 (call (fn ((y (join 2))) (back (join y 3))))))) (say (join x 4)) (back x))) 5))", 5, "(say [(call (fn ((x [1 | (call (fn ((y [2])) (back [y | 3])))])) (say [x | 4]) (back x))) | 5])", "1234/1235 end"},
		{"(say 1) (say (join (fn () (say (join 1 2))) (join 3)))", 3, "(say 1) (say [(fn () (say [1 | 2])) | [3]])", "1 kind"},
		// One that calls itself.
		{"(let f (fn (n) (if (= n 0) (back (join)) (do)) (back (join n (call f (- n 1)) n)))) (say (call f 3))", 2, "(let f (fn (n) (if (= n 0) (back []) (do)) (back [n | (call f (- n 1)) | n]))) (say (call f 3))", "321123 end"},
		// Beside each other, and beside what stays as it is.
		{"(say (join 1)) (say 2) (say (join 3 4)) (say (& 5 6)) (say (join))", 3, "(say [1]) (say 2) (say [3 | 4]) (say (& 5 6)) (say [])", "1/2/34/56/ end"},
		{"(do (say (join 'a')) (do (say (join 'b' 'c'))) (say (join)))", 3, "(do (say ['a']) (do (say ['b' | 'c'])) (say []))", "a/bc/ end"},
	}
}

func joinCases() []joinCase {
	return slices.Concat(joinSumCases(), joinLengthCases(), joinPlaceCases(), joinWithinCases())
}

// nothingJoined are pages that are Scoped and have no join.
func nothingJoined() []string {
	return slices.Concat(oldTongue(), []string{
		"(let a 1)", "(let joined 1) (say joined)", "(let join0 (& 1 2)) (say join0)", "(say 'join')", "(say ' join 1 2 ')", "(say (& 'join' (& '' 'join')))", "(say (& (& (& '' 'a') 1) none))", "(say '')", "(run (fn ((x (& 1 2))) (back x)))",
		"(take (a b) (thing 1 2)) (say (& a b))", "(for i 0 3 (say i))", "(hidden p) (let t (thing)) (hput p t 1) (say (hget p t))", "(let f (fn (j (joins (get j 0))) (back joins))) (say (call f (thing 4)))", "(while 1 (do (let a (fn (b) (say b))) (leave)))", "(hidden joins) (let joins (thing)) (hput joins joins 1)",
	})
}
