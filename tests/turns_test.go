package tests

import (
	"fmt"
	"slices"
	"strings"
)

// The document's words about turns, as they stand there: the tests hold the
// program against these. The program goes through the signs; this goes into a
// play as a tree, and fills the document's own line.

var turnTree = formTree("(do (let F A) (let G B) (while (< F G) (do (let NAME F) (set F (+ F 1)) DEED)))")

// A slowTurner gives each for the next two fresh names, as it begins.
type slowTurner struct{ slowTaker }

func (s *slowTurner) turned(list []tree) []tree {
	var out []tree
	for _, n := range list {
		if n.head() == "for" {
			out = append(out, s.turns(n)...)
			continue
		}
		out = append(out, tree{n.sign, n.isList, s.turned(n.within)})
	}
	return out
}

func (s *slowTurner) turns(n tree) []tree {
	with := filling{"NAME": n.within[1:2]}
	with["F"] = []tree{s.fresh()}
	with["G"] = []tree{s.fresh()}
	for part, word := range []string{"A", "B", "DEED"} {
		with[word] = s.turned(n.within[part+2 : part+3])
	}
	return with.fill(turnTree)
}

// A turnAnswers is what the two functions of the chapter answer of one list.
type turnAnswers struct {
	count int64
	said  []string
}

func turnedSlowly(l []string) turnAnswers {
	if !scopeSlowly(l).scoped {
		return turnAnswers{count: -1}
	}
	play, turner := playTree(l), slowTurner{slowTaker{play: l}}
	out := turnAnswers{headsIn(play, "for"), signsOfTrees(turner.turned(blockOf(play)))}
	if !playSlowly(out.said) {
		out.said = nil
	}
	return out
}

// A turnCase is a page, how many fors there are in it, what it is said again as,
// and what both say. [F G NAME: A | B | DEED] stands for the deed in the place of
// (for NAME A B DEED).
type turnCase struct {
	page  string
	count int64
	again string
	words string
}

// turnsPage writes out what stands as [F G NAME: A | B | DEED], from the innermost
// one on.
func turnsPage(page string) string {
	for {
		from := strings.LastIndex(page, "[")
		if from < 0 {
			return page
		}
		to := from + strings.Index(page[from:], "]")
		names, others, _ := strings.Cut(page[from+1:to], ": ")
		n, parts := strings.Fields(names), strings.Split(others, " | ")
		turns := fmt.Sprintf("(do (let %[1]s %[4]s) (let %[2]s %[5]s) (while (< %[1]s %[2]s) (do (let %[3]s %[1]s) (set %[1]s (+ %[1]s 1)) %[6]s)))", n[0], n[1], n[2], parts[0], parts[1], parts[2])
		page = page[:from] + turns + page[to+1:]
	}
}

// Where the first number is below, the same as and above the second one, at the
// ends of what a number may be, and where a SUM is no number; written out in full
// where it is new.
func turnSumCases() []turnCase {
	return []turnCase{
		{"(for i 0 3 (say i))", 1, "(do (let v0 0) (let v1 3) (while (< v0 v1) (do (let i v0) (set v0 (+ v0 1)) (say i))))", "0/1/2 end"},
		{"(say 'a') (for i 0 1 (say i)) (say 'b')", 1, "(say 'a') (do (let v0 0) (let v1 1) (while (< v0 v1) (do (let i v0) (set v0 (+ v0 1)) (say i)))) (say 'b')", "a/0/b end"},
		{"(for i -2 2 (say i))", 1, "[v0 v1 i: -2 | 2 | (say i)]", "-2/-1/0/1 end"},
		{"(for i -3 -1 (say i))", 1, "[v0 v1 i: -3 | -1 | (say i)]", "-3/-2 end"},
		{"(for i 5 6 (say i))", 1, "[v0 v1 i: 5 | 6 | (say i)]", "5 end"},
		{"(for i 5 5 (say i)) (say 'z')", 1, "[v0 v1 i: 5 | 5 | (say i)] (say 'z')", "z end"},
		{"(for i 0 0 (say i)) (say 'z')", 1, "[v0 v1 i: 0 | 0 | (say i)] (say 'z')", "z end"},
		{"(for i 6 5 (say i)) (say 'z')", 1, "[v0 v1 i: 6 | 5 | (say i)] (say 'z')", "z end"},
		{"(for i 1 -1 (say i)) (say 'z')", 1, "[v0 v1 i: 1 | -1 | (say i)] (say 'z')", "z end"},
		// At the ends.
		{"(for i 999999997 999999999 (say i)) (say 'z')", 1, "[v0 v1 i: 999999997 | 999999999 | (say i)] (say 'z')", "999999997/999999998/z end"},
		{"(for i 999999999 999999999 (say i)) (say 'z')", 1, "[v0 v1 i: 999999999 | 999999999 | (say i)] (say 'z')", "z end"},
		{"(for i 999999999 -999999999 (say i)) (say 'z')", 1, "[v0 v1 i: 999999999 | -999999999 | (say i)] (say 'z')", "z end"},
		{"(for i -999999999 -999999997 (say i)) (say 'z')", 1, "[v0 v1 i: -999999999 | -999999997 | (say i)] (say 'z')", "-999999999/-999999998/z end"},
		{"(for i -999999999 -999999999 (say i)) (say 'z')", 1, "[v0 v1 i: -999999999 | -999999999 | (say i)] (say 'z')", "z end"},
		{"(for i -999999999 999999999 (do (say i) (if (= i -999999998) (leave) (do))))", 1, "[v0 v1 i: -999999999 | 999999999 | (do (say i) (if (= i -999999998) (leave) (do)))]", "-999999999/-999999998 end"},
		{"(for i 999999998 999999999 (do (say i) (say (+ i 1)) (say (+ i 2))))", 1, "[v0 v1 i: 999999998 | 999999999 | (do (say i) (say (+ i 1)) (say (+ i 2)))]", "999999998/999999999 over"},
		// No number: each kind, in the one, the other, and both.
		{"(say 1) (for i none 2 (say i)) (say 2)", 1, "(say 1) [v0 v1 i: none | 2 | (say i)] (say 2)", "1 kind"},
		{"(say 1) (for i 0 none (say i)) (say 2)", 1, "(say 1) [v0 v1 i: 0 | none | (say i)] (say 2)", "1 kind"},
		{"(say 1) (for i '0' 2 (say i)) (say 2)", 1, "(say 1) [v0 v1 i: '0' | 2 | (say i)] (say 2)", "1 kind"},
		{"(say 1) (for i 0 '2' (say i)) (say 2)", 1, "(say 1) [v0 v1 i: 0 | '2' | (say i)] (say 2)", "1 kind"},
		{"(say 1) (for i (thing) (table) (say i)) (say 2)", 1, "(say 1) [v0 v1 i: (thing) | (table) | (say i)] (say 2)", "1 kind"},
		{"(say 1) (for i (fn ()) 2 (say i)) (say 2)", 1, "(say 1) [v0 v1 i: (fn ()) | 2 | (say i)] (say 2)", "1 kind"},
		{"(say 1) (for i 9 (fn ()) (say i)) (say 2)", 1, "(say 1) [v0 v1 i: 9 | (fn ()) | (say i)] (say 2)", "1 kind"},
		// Both are there ahead of the fault, and each once.
		{"(let f (fn (x) (say x) (back x))) (for i (call f 1) (call f 3) (say (& 'i' i)))", 1, "(let f (fn (x) (say x) (back x))) [v0 v1 i: (call f 1) | (call f 3) | (say (& 'i' i))]", "1/3/i1/i2 end"},
		{"(let f (fn (x) (say x) (back x))) (for i (call f none) (call f 3) (say i))", 1, "(let f (fn (x) (say x) (back x))) [v0 v1 i: (call f none) | (call f 3) | (say i)]", "none/3 kind"},
		{"(let f (fn (x) (say x) (back x))) (for i (call f 'a') (call f 'b') (say i))", 1, "(let f (fn (x) (say x) (back x))) [v0 v1 i: (call f 'a') | (call f 'b') | (say i)]", "a/b kind"},
		{"(say 1) (for i none " + over + " (say i))", 1, "(say 1) [v0 v1 i: none | " + over + " | (say i)]", "1 over"},
		{"(say 1) (for i " + over + " none (say i))", 1, "(say 1) [v0 v1 i: " + over + " | none | (say i)]", "1 over"},
		{"(say 1) (for i (tget (table) (thing)) " + over + " (say i))", 1, "(say 1) [v0 v1 i: (tget (table) (thing)) | " + over + " | (say i)]", "1 key"},
		{"(say 1) (for i 0 (+ 1 none) (say i))", 1, "(say 1) [v0 v1 i: 0 | (+ 1 none) | (say i)]", "1 kind"},
		// What they are is asked once, whatever a turn does.
		{"(let n 3) (for i 0 n (do (set n (- n 1)) (say (join i n))))", 1, "(let n 3) [v0 v1 i: 0 | n | (do (set n (- n 1)) (say (join i n)))]", "02/11/20 end"},
		{"(let n 0) (for i n 3 (do (set n 9) (say (join i n))))", 1, "(let n 0) [v0 v1 i: n | 3 | (do (set n 9) (say (join i n)))]", "09/19/29 end"},
		{"(let n 1) (for i (call (fn () (set n 4) (back 2))) n (say i))", 1, "(let n 1) [v0 v1 i: (call (fn () (set n 4) (back 2))) | n | (say i)]", "2/3 end"},
		// Each form as one.
		{"(hidden p) (let t (thing 1 4)) (let m (table)) (tput m t 2) (hput p t 4) (for i (get t 0) (tget m t) (say i)) (for i (+ 1 2) (hget p t) (say i)) (for i (- 5 1) (* 5 1) (say i)) (for i (< 1 2) (call (fn (x) (back x)) 2) (say i)) (for i (= 1 2) (= 1 1) (say i))", 5,
			"(hidden p) (let t (thing 1 4)) (let m (table)) (tput m t 2) (hput p t 4) [v0 v1 i: (get t 0) | (tget m t) | (say i)] [v2 v3 i: (+ 1 2) | (hget p t) | (say i)] [v4 v5 i: (- 5 1) | (* 5 1) | (say i)] [v6 v7 i: (< 1 2) | (call (fn (x) (back x)) 2) | (say i)] [v8 v9 i: (= 1 2) | (= 1 1) | (say i)]", "1/3/4/1/0 end"},
		{"(say 1) (for i (& 1 2) (join 1 5) (say i))", 1, "(say 1) [v0 v1 i: (& 1 2) | (join 1 5) | (say i)]", "1 kind"},
	}
}

// Where fors stand: side by side, within one another, and in whatever else.
func turnPlaceCases() []turnCase {
	return []turnCase{
		// Side by side.
		{"(for i 0 2 (say i)) (for j 5 7 (say j))", 2, "(do (let v0 0) (let v1 2) (while (< v0 v1) (do (let i v0) (set v0 (+ v0 1)) (say i)))) (do (let v2 5) (let v3 7) (while (< v2 v3) (do (let j v2) (set v2 (+ v2 1)) (say j))))", "0/1/5/6 end"},
		{"(for i 0 1 (say i)) (do (for i 1 2 (say i)) (for i 2 3 (say i))) (for i 3 4 (say i))", 4, "[v0 v1 i: 0 | 1 | (say i)] (do [v2 v3 i: 1 | 2 | (say i)] [v4 v5 i: 2 | 3 | (say i)]) [v6 v7 i: 3 | 4 | (say i)]", "0/1/2/3 end"},
		// In the DEED: it alone, in a do, three deep.
		{"(for i 0 2 (for j 0 2 (say (join i j))))", 2, "(do (let v0 0) (let v1 2) (while (< v0 v1) (do (let i v0) (set v0 (+ v0 1)) (do (let v2 0) (let v3 2) (while (< v2 v3) (do (let j v2) (set v2 (+ v2 1)) (say (join i j))))))))", "00/01/10/11 end"},
		{"(for i 0 3 (for j 0 i (say (join i j))))", 2, "[v0 v1 i: 0 | 3 | [v2 v3 j: 0 | i | (say (join i j))]]", "10/20/21 end"},
		{"(for i 0 2 (do (for j 0 2 (say (join i j))) (for k i 2 (say k)))) (for l 0 1 (say l))", 4, "[v0 v1 i: 0 | 2 | (do [v2 v3 j: 0 | 2 | (say (join i j))] [v4 v5 k: i | 2 | (say k)])] [v6 v7 l: 0 | 1 | (say l)]", "00/01/0/1/10/11/1/0 end"},
		{"(for i 0 2 (for j 0 2 (for k 0 2 (say (join i j k)))))", 3, "[v0 v1 i: 0 | 2 | [v2 v3 j: 0 | 2 | [v4 v5 k: 0 | 2 | (say (join i j k))]]]", "000/001/010/011/100/101/110/111 end"},
		// In a fn in the first SUM, in the second, in both, and in the DEED, too.
		{"(for i (call (fn () (for j 0 2 (say j)) (back 1))) 3 (say i))", 2, "(do (let v0 (call (fn () (do (let v2 0) (let v3 2) (while (< v2 v3) (do (let j v2) (set v2 (+ v2 1)) (say j)))) (back 1)))) (let v1 3) (while (< v0 v1) (do (let i v0) (set v0 (+ v0 1)) (say i))))", "0/1/1/2 end"},
		{"(for i 1 (call (fn () (for j 0 2 (say j)) (back 3))) (say i))", 2, "[v0 v1 i: 1 | (call (fn () [v2 v3 j: 0 | 2 | (say j)] (back 3))) | (say i)]", "0/1/1/2 end"},
		{"(for i (call (fn () (for a 5 9 (back a)))) (call (fn () (for b 7 9 (back b)))) (for c 0 1 (say (join i c)))) (for d 0 1 (say d))", 5, "[v0 v1 i: (call (fn () [v2 v3 a: 5 | 9 | (back a)])) | (call (fn () [v4 v5 b: 7 | 9 | (back b)])) | [v6 v7 c: 0 | 1 | (say (join i c))]] [v8 v9 d: 0 | 1 | (say d)]", "50/60/0 end"},
		{"(for i (call (fn () (for a (call (fn () (for b 2 3 (back b)))) 9 (back a)))) 4 (say i))", 3, "[v0 v1 i: (call (fn () [v2 v3 a: (call (fn () [v4 v5 b: 2 | 3 | (back b)])) | 9 | (back a)])) | 4 | (say i)]", "2/3 end"},
		// In a do, an if, a while.
		{"(do (do (for i 0 2 (say i))) (say 'z'))", 1, "(do (do [v0 v1 i: 0 | 2 | (say i)]) (say 'z'))", "0/1/z end"},
		{"(if 1 (for i 0 2 (say i)) (for i 5 7 (say i)))", 2, "(if 1 [v0 v1 i: 0 | 2 | (say i)] [v2 v3 i: 5 | 7 | (say i)])", "0/1 end"},
		{"(if 0 (for i 0 2 (say i)) (for i 5 7 (say i)))", 2, "(if 0 [v0 v1 i: 0 | 2 | (say i)] [v2 v3 i: 5 | 7 | (say i)])", "5/6 end"},
		{"(let n 0) (while (< n 2) (for i 0 2 (do (set n (+ n 1)) (say (join n i)))))", 1, "(let n 0) (while (< n 2) [v0 v1 i: 0 | 2 | (do (set n (+ n 1)) (say (join n i)))])", "10/21 end"},
		{"(let n 0) (while (< n 2) (do (set n (+ n 1)) (for i n 3 (say (join n i)))))", 1, "(let n 0) (while (< n 2) (do (set n (+ n 1)) [v0 v1 i: n | 3 | (say (join n i))]))", "11/12/22 end"},
		// In a fn: its first deed, behind a vars, with a (NAME SUM), in the SUM of that.
		{"(let f (fn (n) (for i 0 n (say i)))) (run (call f 2)) (run (call f 1))", 1, "(let f (fn (n) [v0 v1 i: 0 | n | (say i)])) (run (call f 2)) (run (call f 1))", "0/1/0 end"},
		{"(say (call (fn (n) (vars s) (set s 0) (for i 0 n (set s (+ s i))) (back s)) 5))", 1, "(say (call (fn (n) (vars s) (set s 0) [v0 v1 i: 0 | n | (set s (+ s i))] (back s)) 5))", "10 end"},
		{"(run (call (fn ((n 2)) (for i 0 n (say i)))))", 1, "(run (call (fn ((n 2)) [v0 v1 i: 0 | n | (say i)])))", "0/1 end"},
		{"(say (call (fn ((n (call (fn () (for i 4 9 (back i)))))) (back n))))", 1, "(say (call (fn ((n (call (fn () [v0 v1 i: 4 | 9 | (back i)])))) (back n))))", "4 end"},
		{"(let f (fn (n) (for i 0 n (do (say n) (run (call f i)))))) (run (call f 3))", 1, "(let f (fn (n) [v0 v1 i: 0 | n | (do (say n) (run (call f i)))])) (run (call f 3))", "3/3/1/3/2/2/1 end"},
		{"(vars s) (for i 0 3 (set s i)) (say s)", 1, "(vars s) [v0 v1 i: 0 | 3 | (set s i)] (say s)", "2 end"},
		// In a fn in a sum of each kind.
		{"(let f (fn () (for i 7 8 (back i)))) (say (+ 1 (call f))) (say (- (call (fn () (for i 1 2 (back i)))) 1)) (say (* 2 (call (fn () (for i 2 3 (back i)))))) (say (< 1 (call (fn () (for i 3 4 (back i)))))) (say (= 4 (call (fn () (for i 4 5 (back i)))))) (say (& 5 (call (fn () (for i 5 6 (back i))))))", 6,
			"(let f (fn () [v0 v1 i: 7 | 8 | (back i)])) (say (+ 1 (call f))) (say (- (call (fn () [v2 v3 i: 1 | 2 | (back i)])) 1)) (say (* 2 (call (fn () [v4 v5 i: 2 | 3 | (back i)])))) (say (< 1 (call (fn () [v6 v7 i: 3 | 4 | (back i)])))) (say (= 4 (call (fn () [v8 v9 i: 4 | 5 | (back i)])))) (say (& 5 (call (fn () [v10 v11 i: 5 | 6 | (back i)]))))", "8/0/4/1/1/55 end"},
		{"(hidden p) (let t (thing (fn () (for i 1 2 (back i))))) (say (call (get t 0))) (say (join (call (fn () (for i 2 3 (back i)))))) (hput p t (fn () (for i 3 4 (back i)))) (say (call (hget p t))) (let m (table)) (tput m t (fn () (for i 4 5 (back i)))) (say (call (tget m t))) (put t 'k' (fn () (for i 5 6 (back i)))) (say (call (get t 'k'))) (take (f) (thing (fn () (for i 6 7 (back i))))) (say (call f)) (back (fn () (for i 7 8 (say i))))", 7,
			"(hidden p) (let t (thing (fn () [v0 v1 i: 1 | 2 | (back i)]))) (say (call (get t 0))) (say (join (call (fn () [v2 v3 i: 2 | 3 | (back i)])))) (hput p t (fn () [v4 v5 i: 3 | 4 | (back i)])) (say (call (hget p t))) (let m (table)) (tput m t (fn () [v6 v7 i: 4 | 5 | (back i)])) (say (call (tget m t))) (put t 'k' (fn () [v8 v9 i: 5 | 6 | (back i)])) (say (call (get t 'k'))) (take (f) (thing (fn () [v10 v11 i: 6 | 7 | (back i)]))) (say (call f)) (back (fn () [v12 v13 i: 7 | 8 | (say i)]))", "1/2/3/4/5/6 end"},
	}
}

// A DEED of each kind that may stand there.
func turnDeedCases() []turnCase {
	return []turnCase{
		{"(for i 0 2 (do))", 1, "(do (let v0 0) (let v1 2) (while (< v0 v1) (do (let i v0) (set v0 (+ v0 1)) (do))))", "end"},
		{"(let a 5) (for i 0 3 (set a (+ a i))) (say a)", 1, "(let a 5) [v0 v1 i: 0 | 3 | (set a (+ a i))] (say a)", "8 end"},
		{"(for i 0 3 (if (= i 1) (say 'y') (say i)))", 1, "[v0 v1 i: 0 | 3 | (if (= i 1) (say 'y') (say i))]", "0/y/2 end"},
		{"(let n 0) (for i 0 2 (while (< n (* 2 i)) (do (set n (+ n 1)) (say (join i n)))))", 1, "(let n 0) [v0 v1 i: 0 | 2 | (while (< n (* 2 i)) (do (set n (+ n 1)) (say (join i n))))]", "11/12 end"},
		{"(say (call (fn () (for i 3 9 (back i)) (say 'no'))))", 1, "(say (call (fn () [v0 v1 i: 3 | 9 | (back i)] (say 'no'))))", "3 end"},
		{"(for i 0 3 (leave)) (say 'z')", 1, "[v0 v1 i: 0 | 3 | (leave)] (say 'z')", "z end"},
		{"(for i 0 3 (next)) (say 'z')", 1, "[v0 v1 i: 0 | 3 | (next)] (say 'z')", "z end"},
		{"(let t (thing)) (for i 0 3 (put t i (* i i))) (say (join (get t 0) (get t 1) (get t 2) (get t 3)))", 1, "(let t (thing)) [v0 v1 i: 0 | 3 | (put t i (* i i))] (say (join (get t 0) (get t 1) (get t 2) (get t 3)))", "014none end"},
		{"(let f (fn (x) (say x))) (for i 0 2 (run (call f i)))", 1, "(let f (fn (x) (say x))) [v0 v1 i: 0 | 2 | (run (call f i))]", "0/1 end"},
		{"(hidden p) (let t (thing)) (for i 0 3 (hput p t i)) (say (hget p t))", 1, "(hidden p) (let t (thing)) [v0 v1 i: 0 | 3 | (hput p t i)] (say (hget p t))", "2 end"},
		{"(let m (table)) (let t (thing)) (for i 0 3 (tput m t i)) (say (tget m t))", 1, "(let m (table)) (let t (thing)) [v0 v1 i: 0 | 3 | (tput m t i)] (say (tget m t))", "2 end"},
		// A do with lets, takes and hiddens of its own, new ones each turn.
		{"(for i 0 2 (do (say a) (let a (+ i 5)) (say a)))", 1, "[v0 v1 i: 0 | 2 | (do (say a) (let a (+ i 5)) (say a))]", "none/5/none/6 end"},
		{"(for i 0 2 (do (say b) (take (a b) (thing i (* i 7))) (say (join a b))))", 1, "[v0 v1 i: 0 | 2 | (do (say b) (take (a b) (thing i (* i 7))) (say (join a b)))]", "none/00/none/17 end"},
		{"(let t (thing)) (for i 0 2 (do (hput p t i) (hidden p) (say (hget p t)))) (for i 0 2 (do (hidden p) (if i (say (hget p t)) (hput p t i))))", 2, "(let t (thing)) [v0 v1 i: 0 | 2 | (do (hput p t i) (hidden p) (say (hget p t)))] [v2 v3 i: 0 | 2 | (do (hidden p) (if i (say (hget p t)) (hput p t i)))]", "0/1 key"},
		{"(for i 0 2 (do (let f (fn () (vars a) (set a i) (back a))) (take (b c) (thing (call f) f)) (hidden p) (let t (thing)) (hput p t (call c)) (say (join b (hget p t)))))", 1, "[v0 v1 i: 0 | 2 | (do (let f (fn () (vars a) (set a i) (back a))) (take (b c) (thing (call f) f)) (hidden p) (let t (thing)) (hput p t (call c)) (say (join b (hget p t))))]", "00/11 end"},
	}
}

// leave, next and back, in whatever stands in the DEED.
func turnWayOutCases() []turnCase {
	return []turnCase{
		{"(for i 0 9 (do (if (= i 1) (next) (do)) (if (= i 4) (leave) (do)) (say i))) (say 'z')", 1, "[v0 v1 i: 0 | 9 | (do (if (= i 1) (next) (do)) (if (= i 4) (leave) (do)) (say i))] (say 'z')", "0/2/3/z end"},
		{"(for i 0 9 (if (< i 3) (say i) (leave))) (say 'z')", 1, "[v0 v1 i: 0 | 9 | (if (< i 3) (say i) (leave))] (say 'z')", "0/1/2/z end"},
		{"(for i 0 4 (if (= i 2) (next) (say i)))", 1, "[v0 v1 i: 0 | 4 | (if (= i 2) (next) (say i))]", "0/1/3 end"},
		{"(for i 0 4 (do (do (say i) (next)) (say 'no')))", 1, "[v0 v1 i: 0 | 4 | (do (do (say i) (next)) (say 'no'))]", "0/1/2/3 end"},
		{"(for i 0 4 (do (do (say i) (do (leave))) (say 'no')))", 1, "[v0 v1 i: 0 | 4 | (do (do (say i) (do (leave))) (say 'no'))]", "0 end"},
		// In a while within: that one's; behind it: the for's.
		{"(for i 0 3 (do (while 1 (leave)) (say i)))", 1, "[v0 v1 i: 0 | 3 | (do (while 1 (leave)) (say i))]", "0/1/2 end"},
		{"(let n 0) (for i 0 3 (do (while (< n i) (do (set n (+ n 1)) (next) (say 'no'))) (say (join i n)) (if (= i 1) (leave) (do))))", 1, "(let n 0) [v0 v1 i: 0 | 3 | (do (while (< n i) (do (set n (+ n 1)) (next) (say 'no'))) (say (join i n)) (if (= i 1) (leave) (do)))]", "00/11 end"},
		{"(for i 0 3 (do (while i (do (say i) (leave))) (next) (say 'no')))", 1, "[v0 v1 i: 0 | 3 | (do (while i (do (say i) (leave))) (next) (say 'no'))]", "1/2 end"},
		// In a for within, and around that.
		{"(for i 0 3 (for j 0 3 (if (= j 1) (next) (if (= j i) (leave) (say (join i j))))))", 2, "[v0 v1 i: 0 | 3 | [v2 v3 j: 0 | 3 | (if (= j 1) (next) (if (= j i) (leave) (say (join i j))))]]", "10/12/20 end"},
		{"(for i 0 3 (do (for j 0 3 (do (say (join i j)) (leave))) (if (= i 1) (leave) (next)) (say 'no')))", 2, "[v0 v1 i: 0 | 3 | (do [v2 v3 j: 0 | 3 | (do (say (join i j)) (leave))] (if (= i 1) (leave) (next)) (say 'no'))]", "00/10 end"},
		{"(let n 0) (while (< n 3) (do (set n (+ n 1)) (for i 0 3 (if (= i 1) (leave) (say (join n i)))) (if (= n 2) (leave) (next)) (say 'no')))", 1, "(let n 0) (while (< n 3) (do (set n (+ n 1)) [v0 v1 i: 0 | 3 | (if (= i 1) (leave) (say (join n i)))] (if (= n 2) (leave) (next)) (say 'no')))", "10/20 end"},
		{"(for i 0 2 (do (say i) (run (call (fn () (for j 0 9 (if (= j 1) (leave) (say (& 'j' j)))))))))", 2, "[v0 v1 i: 0 | 2 | (do (say i) (run (call (fn () [v2 v3 j: 0 | 9 | (if (= j 1) (leave) (say (& 'j' j)))]))))]", "0/j0/1/j0 end"},
		// back: of the fn around it, through fors within one another, and of the play.
		{"(let f (fn (n) (for i 0 n (do (say i) (if (= i 2) (back 'b') (do)))) (back 'e'))) (say (call f 2)) (say (call f 9))", 1, "(let f (fn (n) [v0 v1 i: 0 | n | (do (say i) (if (= i 2) (back 'b') (do)))] (back 'e'))) (say (call f 2)) (say (call f 9))", "0/1/e/0/1/2/b end"},
		{"(say (call (fn () (for i 0 3 (for j 0 3 (if (= (+ i j) 3) (back (join i j)) (do)))))))", 2, "(say (call (fn () [v0 v1 i: 0 | 3 | [v2 v3 j: 0 | 3 | (if (= (+ i j) 3) (back (join i j)) (do))]])))", "12 end"},
		{"(for i 0 3 (do (say i) (back i) (say 'no'))) (say 'no')", 1, "[v0 v1 i: 0 | 3 | (do (say i) (back i) (say 'no'))] (say 'no')", "0 end"},
		{"(for i 0 3 (say (call (fn () (back i) (say 'no')))))", 1, "[v0 v1 i: 0 | 3 | (say (call (fn () (back i) (say 'no'))))]", "0/1/2 end"},
	}
}

// Who has which name.
func turnNameCases() []turnCase {
	return []turnCase{
		// One NAME for several, side by side and within one another.
		{"(for i 0 2 (say i)) (for i 5 7 (say i))", 2, "[v0 v1 i: 0 | 2 | (say i)] [v2 v3 i: 5 | 7 | (say i)]", "0/1/5/6 end"},
		{"(for i 0 2 (do (for i 5 7 (say i)) (say i)))", 2, "[v0 v1 i: 0 | 2 | (do [v2 v3 i: 5 | 7 | (say i)] (say i))]", "5/6/0/5/6/1 end"},
		{"(for i 1 4 (for i i (+ i 2) (say i)))", 2, "[v0 v1 i: 1 | 4 | [v2 v3 i: i | (+ i 2) | (say i)]]", "1/2/2/3/3/4 end"},
		{"(for i 0 2 (for i 5 7 (for i 8 9 (say i))))", 3, "[v0 v1 i: 0 | 2 | [v2 v3 i: 5 | 7 | [v4 v5 i: 8 | 9 | (say i)]]]", "8/8/8/8 end"},
		// One that is declared around, and used in both SUMs.
		{"(let i 5) (for i i (+ i 3) (say i)) (say i)", 1, "(let i 5) (do (let v0 i) (let v1 (+ i 3)) (while (< v0 v1) (do (let i v0) (set v0 (+ v0 1)) (say i)))) (say i)", "5/6/7/5 end"},
		{"(say (call (fn (i) (for i (- i 1) i (say i)) (back i)) 9))", 1, "(say (call (fn (i) [v0 v1 i: (- i 1) | i | (say i)] (back i)) 9))", "8/9 end"},
		{"(vars i) (set i 1) (for i (call (fn () (set i (+ i 1)) (back i))) (call (fn () (set i (* i 2)) (back i))) (say i)) (say i)", 1, "(vars i) (set i 1) [v0 v1 i: (call (fn () (set i (+ i 1)) (back i))) | (call (fn () (set i (* i 2)) (back i))) | (say i)] (say i)", "2/3/4 end"},
		{"(take (i j) (thing 1 3)) (for i i j (for j i j (say (join i j)))) (say (join i j))", 2, "(take (i j) (thing 1 3)) [v0 v1 i: i | j | [v2 v3 j: i | j | (say (join i j))]] (say (join i j))", "11/12/22/13 end"},
		{"(for i 0 2 (say i)) (let i 7) (say i)", 1, "[v0 v1 i: 0 | 2 | (say i)] (let i 7) (say i)", "0/1/7 end"},
		{"(say 1) (for i i 2 (say i)) (let i 7)", 1, "(say 1) [v0 v1 i: i | 2 | (say i)] (let i 7)", "1 kind"},
		// Beside it and within it.
		{"(do (let i 3) (say i)) (for i 0 2 (say i)) (do (say i) (let i 4))", 1, "(do (let i 3) (say i)) [v0 v1 i: 0 | 2 | (say i)] (do (say i) (let i 4))", "3/0/1/none end"},
		{"(for i 0 2 (do (say i) (let i 5) (say i)))", 1, "[v0 v1 i: 0 | 2 | (do (say i) (let i 5) (say i))]", "none/5/none/5 end"},
		{"(for i 0 2 (do (do (let i 5) (say i)) (say i)))", 1, "[v0 v1 i: 0 | 2 | (do (do (let i 5) (say i)) (say i))]", "5/0/5/1 end"},
		{"(for i 0 2 (do (take (i) (thing 8)) (say i)))", 1, "[v0 v1 i: 0 | 2 | (do (take (i) (thing 8)) (say i))]", "8/8 end"},
		{"(for i 0 2 (say (call (fn (i) (set i (+ i 1)) (back i)) i)))", 1, "[v0 v1 i: 0 | 2 | (say (call (fn (i) (set i (+ i 1)) (back i)) i))]", "1/2 end"},
		{"(for i 0 2 (say (call (fn ((i 6)) (back i)))))", 1, "[v0 v1 i: 0 | 2 | (say (call (fn ((i 6)) (back i))))]", "6/6 end"},
		{"(let i (thing)) (hidden i) (hput i i 3) (for k 0 2 (hput i i (+ k (hget i i)))) (say (hget i i)) (let t i) (do (for i 0 2 (do (hput i t i) (say (hget i t)))))", 2, "(let i (thing)) (hidden i) (hput i i 3) [v0 v1 k: 0 | 2 | (hput i i (+ k (hget i i)))] (say (hget i i)) (let t i) (do [v2 v3 i: 0 | 2 | (do (hput i t i) (say (hget i t)))])", "4/0/1 end"},
		// One that is set: the next turn is as if it had not been.
		{"(for i 0 3 (do (say i) (set i 9) (say i)))", 1, "[v0 v1 i: 0 | 3 | (do (say i) (set i 9) (say i))]", "0/9/1/9/2/9 end"},
		{"(for i 0 3 (set i none)) (say 'z')", 1, "[v0 v1 i: 0 | 3 | (set i none)] (say 'z')", "z end"},
		{"(for i 0 3 (do (set i (+ i i)) (if (< i 4) (next) (say i))))", 1, "[v0 v1 i: 0 | 3 | (do (set i (+ i i)) (if (< i 4) (next) (say i)))]", "4 end"},
		// One that a function keeps of a turn, asked and set later.
		{"(let t (thing)) (for i 0 3 (put t i (fn () (back i)))) (say (call (get t 0))) (say (call (get t 1))) (say (call (get t 2)))", 1, "(let t (thing)) [v0 v1 i: 0 | 3 | (put t i (fn () (back i)))] (say (call (get t 0))) (say (call (get t 1))) (say (call (get t 2)))", "0/1/2 end"},
		{"(let t (thing)) (for i 0 3 (put t i (fn () (set i (+ i 5)) (back i)))) (say (call (get t 1))) (say (call (get t 1))) (say (call (get t 2)))", 1, "(let t (thing)) [v0 v1 i: 0 | 3 | (put t i (fn () (set i (+ i 5)) (back i)))] (say (call (get t 1))) (say (call (get t 1))) (say (call (get t 2)))", "6/11/7 end"},
		{"(let f none) (for i 0 3 (do (if i (say (call f)) (do)) (set f (fn () (set i (+ i 9)) (back i))))) (say (call f)) (say (call f))", 1, "(let f none) [v0 v1 i: 0 | 3 | (do (if i (say (call f)) (do)) (set f (fn () (set i (+ i 9)) (back i))))] (say (call f)) (say (call f))", "9/10/11/20 end"},
		{"(let t (thing)) (for i 0 2 (for j 0 2 (put t (+ j (* 2 i)) (fn () (back (join i j)))))) (say (join (call (get t 0)) (call (get t 1)) (call (get t 2)) (call (get t 3))))", 2, "(let t (thing)) [v0 v1 i: 0 | 2 | [v2 v3 j: 0 | 2 | (put t (+ j (* 2 i)) (fn () (back (join i j))))]] (say (join (call (get t 0)) (call (get t 1)) (call (get t 2)) (call (get t 3))))", "00011011 end"},
		// Fresh names' own texts: the NAME, one that is declared, given, taken, hidden, a PARAM.
		{"(for v0 0 2 (say v0))", 1, "(do (let v1 0) (let v2 2) (while (< v1 v2) (do (let v0 v1) (set v1 (+ v1 1)) (say v0))))", "0/1 end"},
		{"(for v1 0 2 (say v1))", 1, "(do (let v0 0) (let v2 2) (while (< v0 v2) (do (let v1 v0) (set v0 (+ v0 1)) (say v1))))", "0/1 end"},
		{"(for v0 0 2 (for v1 v0 2 (say (join v0 v1))))", 2, "[v2 v3 v0: 0 | 2 | [v4 v5 v1: v0 | 2 | (say (join v0 v1))]]", "00/01/11 end"},
		{"(for v2 0 1 (for v5 0 1 (for i 0 1 (say (join v2 v5 i)))))", 3, "[v0 v1 v2: 0 | 1 | [v3 v4 v5: 0 | 1 | [v6 v7 i: 0 | 1 | (say (join v2 v5 i))]]]", "000 end"},
		{"(let v0 1) (let v1 3) (for i v0 v1 (do (set v0 9) (say (join i v0 v1))))", 1, "(let v0 1) (let v1 3) [v2 v3 i: v0 | v1 | (do (set v0 9) (say (join i v0 v1)))]", "193/293 end"},
		{"(for i 0 2 (do (let v0 (* i 3)) (say v0))) (do (let v3 4) (for j v3 5 (say j)))", 2, "[v1 v2 i: 0 | 2 | (do (let v0 (* i 3)) (say v0))] (do (let v3 4) [v4 v5 j: v3 | 5 | (say j)])", "0/3/4 end"},
		{"(hidden v1) (let t (thing)) (for i 0 2 (say (call (fn (v0 (v3 i)) (hput v1 t v3) (take (v4) (thing (hget v1 t))) (back (+ v0 v4))) 5)))", 1, "(hidden v1) (let t (thing)) [v2 v5 i: 0 | 2 | (say (call (fn (v0 (v3 i)) (hput v1 t v3) (take (v4) (thing (hget v1 t))) (back (+ v0 v4))) 5))]", "5/6 end"},
		{"(let v 1) (let v00 2) (let v01 3) (let w0 4) (let v10 5) (for i 0 1 (say (& 'v0' v01)))", 1, "(let v 1) (let v00 2) (let v01 3) (let w0 4) (let v10 5) [v0 v1 i: 0 | 1 | (say (& 'v0' v01))]", "v03 end"},
		{"(for i 0 1 (do)) (for i 0 1 (do)) (for i 0 1 (do)) (for i 0 1 (do)) (for v8 0 1 (say v8)) (for i 0 1 (say 'v11'))", 6, "[v0 v1 i: 0 | 1 | (do)] [v2 v3 i: 0 | 1 | (do)] [v4 v5 i: 0 | 1 | (do)] [v6 v7 i: 0 | 1 | (do)] [v9 v10 v8: 0 | 1 | (say v8)] [v11 v12 i: 0 | 1 | (say 'v11')]", "0/v11 end"},
		// Names of all lengths, and those that look like a word.
		{"(for abcdefgh 0 1 (say abcdefgh)) (for fors 1 2 (say fors)) (for for0 2 3 (say for0)) (for turn 3 4 (say turn)) (for n 4 5 (say n))", 5, "[v0 v1 abcdefgh: 0 | 1 | (say abcdefgh)] [v2 v3 fors: 1 | 2 | (say fors)] [v4 v5 for0: 2 | 3 | (say for0)] [v6 v7 turn: 3 | 4 | (say turn)] [v8 v9 n: 4 | 5 | (say n)]", "0/1/2/3/4 end"},
		{"(for i 0 1 (say 'for')) (say ' for i 0 1 ')", 1, "[v0 v1 i: 0 | 1 | (say 'for')] (say ' for i 0 1 ')", "for/ for i 0 1  end"},
	}
}

// Where each fault ends the play, and too much at once.
func turnFaultCases() []turnCase {
	return []turnCase{
		{"(for i 0 3 (do (say i) (if (= i 1) (say (+ 1 none)) (do))))", 1, "[v0 v1 i: 0 | 3 | (do (say i) (if (= i 1) (say (+ 1 none)) (do)))]", "0/1 kind"},
		{"(for i 0 3 (do (say i) (if (= i 1) (say " + over + ") (do))))", 1, "[v0 v1 i: 0 | 3 | (do (say i) (if (= i 1) (say " + over + ") (do)))]", "0/1 over"},
		{"(let m (table)) (let t (thing)) (for i 0 3 (do (say i) (if (= i 1) (say (tget m t)) (do))))", 1, "(let m (table)) (let t (thing)) [v0 v1 i: 0 | 3 | (do (say i) (if (= i 1) (say (tget m t)) (do)))]", "0/1 key"},
		{"(for i 0 3 (do (say i) (while (= i 1) (do))))", 1, "[v0 v1 i: 0 | 3 | (do (say i) (while (= i 1) (do)))]", "0/1 fuel"},
		{"(let f (fn (n) (for i n 99 (do (if (< 38 i) (say i) (do)) (run (call f (+ i 1))))))) (run (call f 1))", 1, "(let f (fn (n) [v0 v1 i: n | 99 | (do (if (< 38 i) (say i) (do)) (run (call f (+ i 1))))])) (run (call f 1))", "39/40 many"},
		{"(let t (thing)) (for i 0 99 (do (put t i i) (if (< 57 i) (say i) (do))))", 1, "(let t (thing)) [v0 v1 i: 0 | 99 | (do (put t i i) (if (< 57 i) (say i) (do)))]", "58/59 many"},
		{"(for i 0 1001 (do (run (fn ())) (if (< 997 i) (say i) (do))))", 1, "[v0 v1 i: 0 | 1001 | (do (run (fn ())) (if (< 997 i) (say i) (do)))]", "998/999 many"},
		{"(for i 0 1001 (do (run (thing)) (if (< 997 i) (say i) (do))))", 1, "[v0 v1 i: 0 | 1001 | (do (run (thing)) (if (< 997 i) (say i) (do)))]", "998/999 many"},
		{"(for i 0 201 (do (run (table)) (if (< 197 i) (say i) (do))))", 1, "[v0 v1 i: 0 | 201 | (do (run (table)) (if (< 197 i) (say i) (do)))]", "198/199 many"},
	}
}

func turnCases() []turnCase {
	return slices.Concat(turnSumCases(), turnPlaceCases(), turnDeedCases(), turnWayOutCases(), turnNameCases(), turnFaultCases())
}

// noTurns are pages that are Scoped and have no for.
func noTurns() []string {
	return slices.Concat(oldTongue(), []string{
		"(let a 1)", "(let fors 1) (say fors)", "(let for0 (thing 1 2)) (say (get for0 1))", "(say 'for')", "(say ' for i 0 3 ')", "(say (& ' for ' 'for'))", "(do (let v0 0) (let v1 3) (while (< v0 v1) (do (let i v0) (set v0 (+ v0 1)) (say i))))", "(run (fn ((x 1)) (back x)))",
		"(take (a b) (thing 1 2)) (say (& a b))", "(hidden p) (let t (thing)) (hput p t 1) (say (hget p t))", "(let f (fn (t (for1 (get t 0))) (back for1))) (say (call f (thing 4)))", "(while 1 (do (let a (fn (b) (say b))) (leave)))", "(say (join 1 2 3))", "(do (let v0 1) (let v1 2))", "(hidden fors) (let fors (thing)) (hput fors fors 1)",
	})
}
