package tests

import (
	"fmt"
	"slices"
	"strings"
)

// The document's words about what is wrapped, as they stand there: the tests hold
// the program against these. The program goes by places of signs; this goes up
// from each NAME and each do to what stands around, and fills the document's own
// lines.

// A spot is an item of a play, with the item it stands in and as which part of
// that. Those that are dos tell whether they are kept.
type spot struct {
	tree
	around *spot
	part   int
	inside []*spot
	kept   bool
}

// spotOf asks those within ahead of the one they stand in.
func spotOf(n tree, around *spot, part int) *spot {
	out := &spot{tree: n, around: around, part: part}
	for part, inner := range n.within {
		out.inside = append(out.inside, spotOf(inner, out, part))
	}
	out.kept = n.head() == "do" && slices.ContainsFunc(out.uses(), func(use *spot) bool {
		return use.declaredBy() == out && use.isKeptIn(out)
	})
	return out
}

func (s *spot) isParams() bool { return s.around != nil && s.around.head() == "fn" && s.part == 1 }

func (s *spot) isTaken() bool { return s.around != nil && s.around.head() == "take" && s.part == 1 }

// isUse asks for a NAME in a sum or of a set.
func (s *spot) isUse() bool {
	switch {
	case s.around == nil || !isName(s.tree) || s.around.isParams() || s.around.isTaken():
		return false
	case s.around.around != nil && s.around.around.isParams():
		return s.part == 1
	}
	switch s.around.head() {
	case "hidden", "vars":
		return false
	case "let", "for", "hget", "hput":
		return s.part != 1
	}
	return true
}

func (s *spot) uses() []*spot {
	if s.isUse() {
		return []*spot{s}
	}
	var out []*spot
	for _, inner := range s.inside {
		out = append(out, inner.uses()...)
	}
	return out
}

// declaredBy goes up to the first one that declares it for the part it came from.
func (s *spot) declaredBy() *spot {
	for from, at := s, s.around; at != nil; from, at = at, at.around {
		if slices.Contains(knownFrom(step{at.tree, from.part}, false), s.sign) {
			return at
		}
	}
	return nil
}

// isKeptIn asks for a fn, or for a do that is kept, on the way up to that do.
func (s *spot) isKeptIn(do *spot) bool {
	for at := s.around; at != do; at = at.around {
		if at.head() == "fn" || at.kept {
			return true
		}
	}
	return false
}

func (s *spot) isLoopFor(part int) bool {
	return s.head() == "while" && part == 2 || s.head() == "for" && part == 4
}

func (s *spot) isInLoop() bool {
	for from, at := s, s.around; at != nil; from, at = at, at.around {
		if at.head() == "fn" || at.isLoopFor(from.part) {
			return at.head() != "fn"
		}
	}
	return false
}

// loopDosIn are the dos that are in a loop.
func (s *spot) loopDosIn() []*spot {
	var out []*spot
	if s.head() == "do" && s.isInLoop() {
		out = append(out, s)
	}
	for _, inner := range s.inside {
		out = append(out, inner.loopDosIn()...)
	}
	return out
}

var (
	wrapTree  = formTree("(do (let F (call (fn () DEEDS))) (if (= F none) (do) (if (= (get F 0) 1) (back (get F 1)) (if (= (get F 0) 2) (leave) (next)))))")
	backTree  = formTree("(back (thing 1 SUM))")
	leaveTree = formTree("(back (thing 2))")
	nextTree  = formTree("(back (thing 3))")
)

// A slowWrapper gives each do that is wrapped the next fresh name, as it begins.
type slowWrapper struct{ slowTaker }

func (s *slowWrapper) said(n *spot, inLoop bool) []tree {
	if n.kept && inLoop {
		with := filling{"F": {s.fresh()}}
		with["DEEDS"] = outSlowly(s.saidWithin(n, false)[1:], false)
		return with.fill(wrapTree)
	}
	return []tree{{n.sign, n.isList, s.saidWithin(n, inLoop)}}
}

func (s *slowWrapper) saidWithin(n *spot, inLoop bool) []tree {
	var out []tree
	for part, inner := range n.inside {
		out = append(out, s.said(inner, n.head() != "fn" && (inLoop || n.isLoopFor(part)))...)
	}
	return out
}

func outSlowly(list []tree, inLoop bool) []tree {
	var out []tree
	for _, n := range list {
		switch {
		case n.head() == "fn":
			out = append(out, n)
		case n.head() == "back":
			out = append(out, filling{"SUM": n.within[1:]}.fill(backTree)...)
		case n.head() == "leave" && !inLoop:
			out = append(out, leaveTree)
		case n.head() == "next" && !inLoop:
			out = append(out, nextTree)
		default:
			isLoop := n.head() == "while" || n.head() == "for"
			out = append(out, tree{n.sign, n.isList, outSlowly(n.within, inLoop || isLoop)})
		}
	}
	return out
}

// A wrapAnswers is what the three functions of the chapter answer of one list.
type wrapAnswers struct {
	captured bool
	dos      int64
	said     []string
}

func wrappedSlowly(l []string) wrapAnswers {
	if !scopeSlowly(l).scoped {
		return wrapAnswers{dos: -1}
	}
	play, wrapper := spotOf(playTree(l), nil, 0), slowWrapper{slowTaker{play: l}}
	dos := play.loopDosIn()
	captured := slices.ContainsFunc(dos, func(do *spot) bool { return do.kept })
	out := wrapAnswers{captured, int64(len(dos)), signsOfTrees(wrapper.saidWithin(play, false)[1:])}
	if !playSlowly(out.said) {
		out.said = nil
	}
	return out
}

// A wrapCase is a page, how many dos in it are in a loop, what it is said again
// as, and what both say. [F: DEEDS] stands for the do in the place of one that is
// wrapped, {F: DEEDS} for one that stands in the DEEDS of another one with no fn
// between; an empty again is for a page that stays as it is.
type wrapCase struct {
	page  string
	dos   int64
	again string
	words string
}

func (c wrapCase) captured() bool { return c.again != "" }

func (c wrapCase) againPage() string {
	if !c.captured() {
		return c.page
	}
	return wrapsPage(c.again)
}

// wrapsPage writes out what stands as [F: DEEDS] and {F: DEEDS}, from the
// innermost one on.
func wrapsPage(page string) string {
	for {
		from := strings.LastIndexAny(page, "[{")
		if from < 0 {
			return page
		}
		to := from + strings.IndexAny(page[from:], "]}")
		f, deeds, _ := strings.Cut(page[from+1:to], ": ")
		value := "(get " + f + " 1)"
		if page[from] == '{' {
			value = "(thing 1 " + value + ")"
		}
		wrapped := fmt.Sprintf("(do (let %[1]s (call (fn () %[2]s))) (if (= %[1]s none) (do) (if (= (get %[1]s 0) 1) (back %[3]s) (if (= (get %[1]s 0) 2) (leave) (next)))))", f, deeds, value)
		page = page[:from] + wrapped + page[to+1:]
	}
}

// No, one and several: side by side and within one another; written out in full
// where it is new.
func wrapWithinCases() []wrapCase {
	return []wrapCase{
		{"(while 1 (do (let x 1) (run (fn () (back x))) (leave)))", 1, "(while 1 (do (let v0 (call (fn () (let x 1) (run (fn () (back x))) (back (thing 2))))) (if (= v0 none) (do) (if (= (get v0 0) 1) (back (get v0 1)) (if (= (get v0 0) 2) (leave) (next))))))", "end"},
		{"(while 1 (do (let x 1) (say x) (leave)))", 1, "", "1 end"},
		{"(for i 0 2 (do (let x i) (say x)))", 1, "", "0/1 end"},
		{"(let t (thing)) (for i 0 3 (do (let x i) (put t i (fn () (back x))))) (say (join (call (get t 0)) (call (get t 1)) (call (get t 2))))", 1,
			"(let t (thing)) (for i 0 3 (do (let v0 (call (fn () (let x i) (put t i (fn () (back x)))))) (if (= v0 none) (do) (if (= (get v0 0) 1) (back (get v0 1)) (if (= (get v0 0) 2) (leave) (next)))))) (say (join (call (get t 0)) (call (get t 1)) (call (get t 2))))", "012 end"},
		// Side by side.
		{"(for i 0 2 (do (let x i) (let f (fn () (back x))) (say (call f)))) (for i 5 7 (do (let x i) (let f (fn () (back x))) (say (call f))))", 2,
			"(for i 0 2 [v0: (let x i) (let f (fn () (back x))) (say (call f))]) (for i 5 7 [v1: (let x i) (let f (fn () (back x))) (say (call f))])", "0/1/5/6 end"},
		{"(for i 0 2 (do (do (let x i) (let f (fn () (back x))) (say (call f))) (do (let y (+ i 5)) (say y)) (do (let y (+ i 7)) (let f (fn () (back y))) (say (call f)))))", 4,
			"(for i 0 2 (do [v0: (let x i) (let f (fn () (back x))) (say (call f))] (do (let y (+ i 5)) (say y)) [v1: (let y (+ i 7)) (let f (fn () (back y))) (say (call f))]))", "0/5/7/1/6/8 end"},
		{"(for i 0 2 (if i (do (let x 1) (let f (fn () (back x))) (say (call f))) (do (let x 2) (let f (fn () (back x))) (say (call f)))))", 2,
			"(for i 0 2 (if i [v0: (let x 1) (let f (fn () (back x))) (say (call f))] [v1: (let x 2) (let f (fn () (back x))) (say (call f))]))", "2/1 end"},
		// The inner one is kept, and the outer one not.
		{"(for i 0 2 (do (let x i) (say x) (do (let y (* i 3)) (let f (fn () (back y))) (say (call f)))))", 2, "(for i 0 2 (do (let x i) (say x) [v0: (let y (* i 3)) (let f (fn () (back y))) (say (call f))]))", "0/0/1/3 end"},
		{"(for i 0 2 (do (let x i) (say x) (for j 0 2 (do (let y j) (let f (fn () (back y))) (say (join i (call f)))))))", 2, "(for i 0 2 (do (let x i) (say x) (for j 0 2 [v0: (let y j) (let f (fn () (back y))) (say (join i (call f)))])))", "0/00/01/1/10/11 end"},
		{"(for i 0 2 (do (let x i) (do (let y x) (do (let z i) (let f (fn () (back z))) (say (call f))) (say y))))", 3, "(for i 0 2 (do (let x i) (do (let y x) [v0: (let z i) (let f (fn () (back z))) (say (call f))] (say y))))", "0/0/1/1 end"},
		// The outer one, and the inner one not.
		{"(for i 0 2 (do (let x i) (do (let y x) (say y)) (let f (fn () (back x))) (say (call f))))", 2, "(for i 0 2 [v0: (let x i) (do (let y x) (say y)) (let f (fn () (back x))) (say (call f))])", "0/0/1/1 end"},
		{"(for i 0 2 (do (let x i) (do (let y 4) (let f (fn () (back x))) (say (+ y (call f))))))", 2, "(for i 0 2 [v0: (let x i) (do (let y 4) (let f (fn () (back x))) (say (+ y (call f))))])", "4/5 end"},
		{"(for i 0 2 (do (let x i) (for j 0 2 (do (let y j) (let f (fn () (back x))) (say (join y (call f)))))))", 2, "(for i 0 2 [v0: (let x i) (for j 0 2 (do (let y j) (let f (fn () (back x))) (say (join y (call f)))))])", "00/10/01/11 end"},
		// Both: the inner one stands in no loop then, but where there is one between.
		{"(for i 0 2 (do (let x i) (let f (fn () (back x))) (do (let y (+ x 5)) (let g (fn () (back y))) (say (join (call f) (call g))))))", 2, "(for i 0 2 [v0: (let x i) (let f (fn () (back x))) (do (let y (+ x 5)) (let g (fn () (back y))) (say (join (call f) (call g))))])", "05/16 end"},
		{"(for i 0 2 (do (let x i) (let f (fn () (back x))) (for j 0 2 (do (let y j) (let g (fn () (back y))) (say (join (call f) (call g)))))))", 2,
			"(for i 0 2 (do (let v0 (call (fn () (let x i) (let f (fn () (back x))) (for j 0 2 (do (let v1 (call (fn () (let y j) (let g (fn () (back y))) (say (join (call f) (call g)))))) (if (= v1 none) (do) (if (= (get v1 0) 1) (back (thing 1 (get v1 1))) (if (= (get v1 0) 2) (leave) (next))))))))) (if (= v0 none) (do) (if (= (get v0 0) 1) (back (get v0 1)) (if (= (get v0 0) 2) (leave) (next))))))", "00/01/10/11 end"},
		{"(for i 0 1 (do (let x i) (let f (fn () (back x))) (do (let y 5) (let g (fn () (back y))) (say (call g))))) (for i 0 1 (do (let z 7) (let f (fn () (back z))) (say (call f))))", 3,
			"(for i 0 1 [v0: (let x i) (let f (fn () (back x))) (do (let y 5) (let g (fn () (back y))) (say (call g)))]) (for i 0 1 [v1: (let z 7) (let f (fn () (back z))) (say (call f))])", "5/7 end"},
		// The outer one only because of the inner one.
		{"(for i 0 2 (do (let x i) (do (let y x) (let f (fn () (back y))) (say (call f)))))", 2, "(for i 0 2 [v0: (let x i) (do (let y x) (let f (fn () (back y))) (say (call f)))])", "0/1 end"},
		{"(for i 0 2 (do (let x i) (for j 0 2 (do (let y j) (let f (fn () (back y))) (say (join x (call f)))))))", 2, "(for i 0 2 [v0: (let x i) (for j 0 2 {v1: (let y j) (let f (fn () (back y))) (say (join x (call f)))})])", "00/01/10/11 end"},
		{"(for i 0 2 (do (let x i) (do (let y 5) (let f (fn () (back y))) (set x (call f))) (say x)))", 2, "(for i 0 2 [v0: (let x i) (do (let y 5) (let f (fn () (back y))) (set x (call f))) (say x)])", "5/5 end"},
		{"(for i 0 2 (do (let x i) (do (let y 5) (let f (fn () (back y))) (do (if 1 (while (< x 2) (set x (+ x (call f)))) (do)))) (say x)))", 4, "(for i 0 2 [v0: (let x i) (do (let y 5) (let f (fn () (back y))) (do (if 1 (while (< x 2) (set x (+ x (call f)))) (do)))) (say x)])", "5/6 end"},
		// By way of several: each because of the one within, one passed over, and one too far.
		{"(for i 0 2 (do (let x i) (do (let y x) (do (let z y) (let f (fn () (back z))) (say (call f))))))", 3, "(for i 0 2 [v0: (let x i) (do (let y x) (do (let z y) (let f (fn () (back z))) (say (call f))))])", "0/1 end"},
		{"(for i 0 2 (do (let x i) (do (let y 4) (say y) (do (let z x) (let f (fn () (back z))) (say (call f))))))", 3, "(for i 0 2 [v0: (let x i) (do (let y 4) (say y) (do (let z x) (let f (fn () (back z))) (say (call f))))])", "4/0/4/1 end"},
		{"(for i 0 2 (do (let x i) (say x) (do (let y 4) (do (let z y) (let f (fn () (back z))) (say (call f))))))", 3, "(for i 0 2 (do (let x i) (say x) [v0: (let y 4) (do (let z y) (let f (fn () (back z))) (say (call f)))]))", "0/4/1/4 end"},
		{"(for i 0 2 (do (let x i) (do (let y x) (say y) (do (let z 4) (let f (fn () (back z))) (say (call f))))))", 3, "(for i 0 2 (do (let x i) (do (let y x) (say y) [v0: (let z 4) (let f (fn () (back z))) (say (call f))])))", "0/4/1/4 end"},
		{"(for i 0 2 (do (let x i) (for j 0 2 (do (let y x) (for k 0 2 (do (let z (join y k)) (let f (fn () (back z))) (say (call f))))))))", 3, "(for i 0 2 [v0: (let x i) (for j 0 2 {v1: (let y x) (for k 0 2 {v2: (let z (join y k)) (let f (fn () (back z))) (say (call f))})})])", "00/01/00/01/10/11/10/11 end"},
		{"(for i 0 2 (do (let x i) (let e (fn () (back x))) (do (let y 1) (say (+ y (call e))) (for k 0 2 (do (let z k) (let f (fn () (back z))) (say (call f)))))))", 3, "(for i 0 2 [v0: (let x i) (let e (fn () (back x))) (do (let y 1) (say (+ y (call e))) (for k 0 2 {v1: (let z k) (let f (fn () (back z))) (say (call f))}))])", "1/0/1/2/0/1 end"},
		{"(for i 0 1 (do (let x i) (let e (fn () (back x))) (do (let y 1) (let f (fn () (back y))) (for k 0 2 (do (let z k) (let f (fn () (back z))) (say (call f)))) (for k 5 6 (do (let z k) (let f (fn () (back z))) (say (call f)))))))", 4,
			"(for i 0 1 [v0: (let x i) (let e (fn () (back x))) (do (let y 1) (let f (fn () (back y))) (for k 0 2 {v1: (let z k) (let f (fn () (back z))) (say (call f))}) (for k 5 6 {v2: (let z k) (let f (fn () (back z))) (say (call f))}))])", "0/1/5 end"},
	}
}

// Where such a do stands.
func wrapPlaceCases() []wrapCase {
	return []wrapCase{
		// The DEED of a while, and in a do, an if, a while and a for within one.
		{"(let n 0) (while (< n 2) (do (let x n) (set n (+ n 1)) (let f (fn () (back x))) (say (call f))))", 1, "(let n 0) (while (< n 2) [v0: (let x n) (set n (+ n 1)) (let f (fn () (back x))) (say (call f))])", "0/1 end"},
		{"(let n 0) (while (< n 2) (do (set n (+ n 1)) (do (do (let x n) (let f (fn () (back x))) (say (call f)))) (say 'z')))", 3, "(let n 0) (while (< n 2) (do (set n (+ n 1)) (do [v0: (let x n) (let f (fn () (back x))) (say (call f))]) (say 'z')))", "1/z/2/z end"},
		{"(for i 0 3 (if (= i 1) (do (let x i) (let f (fn () (back x))) (say (call f))) (say 'e')))", 1, "(for i 0 3 (if (= i 1) [v0: (let x i) (let f (fn () (back x))) (say (call f))] (say 'e')))", "e/1/e end"},
		{"(for i 0 3 (if (= i 1) (say 'e') (if 1 (do (let x i) (let f (fn () (back x))) (say (call f))) (do))))", 2, "(for i 0 3 (if (= i 1) (say 'e') (if 1 [v0: (let x i) (let f (fn () (back x))) (say (call f))] (do))))", "0/e/2 end"},
		{"(for i 0 2 (while 1 (do (let x i) (let f (fn () (back x))) (say (call f)) (leave))))", 1, "(for i 0 2 (while 1 [v0: (let x i) (let f (fn () (back x))) (say (call f)) (back (thing 2))]))", "0/1 end"},
		{"(for i 0 2 (for j 0 2 (do (let x (join i j)) (let f (fn () (back x))) (say (call f)))))", 1, "(for i 0 2 (for j 0 2 [v0: (let x (join i j)) (let f (fn () (back x))) (say (call f))]))", "00/01/10/11 end"},
		{"(for i 0 2 (do (while (= 1 1) (if 1 (do (for j 0 2 (do (let x (join i j)) (let f (fn () (back x))) (say (call f)))) (leave)) (do)))))", 4, "(for i 0 2 (do (while (= 1 1) (if 1 (do (for j 0 2 [v0: (let x (join i j)) (let f (fn () (back x))) (say (call f))]) (leave)) (do)))))", "00/01/10/11 end"},
		// Kept, and in no loop.
		{"(do (let x 1) (let f (fn () (back x))) (say (call f)))", 0, "", "1 end"},
		{"(if 1 (do (let x 1) (let f (fn () (back x))) (say (call f))) (do)) (while 0 (do))", 1, "", "1 end"},
		{"(do (let x 1) (let f (fn () (back x))) (while (< x 3) (do (set x (+ x 1)) (say (call f)))))", 1, "", "2/3 end"},
		{"(do (let x 1) (for i 0 2 (do (let y (+ x i)) (let f (fn () (back y))) (say (call f)))))", 1, "(do (let x 1) (for i 0 2 [v0: (let y (+ x i)) (let f (fn () (back y))) (say (call f))]))", "1/2 end"},
		{"(let f (fn (n) (do (let x n) (let g (fn () (back x))) (back (call g))))) (for i 0 2 (say (call f i)))", 0, "", "0/1 end"},
		// In a fn that stands in a loop, and in a loop in that.
		{"(for i 0 2 (run (call (fn () (do (let x i) (let f (fn () (back x))) (say (call f)))))))", 0, "", "0/1 end"},
		{"(for i 0 2 (do (run (call (fn () (do (let x i) (let f (fn () (back x))) (say (call f))))))))", 1, "", "0/1 end"},
		{"(for i 0 2 (run (call (fn () (for j 0 2 (do (let x (+ i j)) (let f (fn () (back x))) (say (call f))))))))", 1, "(for i 0 2 (run (call (fn () (for j 0 2 [v0: (let x (+ i j)) (let f (fn () (back x))) (say (call f))])))))", "0/1/1/2 end"},
		{"(let f (fn (n) (for i 0 n (do (let x i) (let g (fn () (back x))) (say (call g)))))) (run (call f 2)) (run (call f 1))", 1, "(let f (fn (n) (for i 0 n [v0: (let x i) (let g (fn () (back x))) (say (call g))]))) (run (call f 2)) (run (call f 1))", "0/1/0 end"},
		// A loop in a fn in such a do: the way out of it is no way out of the DEEDS.
		{"(for i 0 2 (do (let x i) (let f (fn () (for j 0 2 (do (let y (+ x j)) (let g (fn () (back y))) (say (call g)))))) (run (call f))))", 2, "(for i 0 2 [v0: (let x i) (let f (fn () (for j 0 2 [v1: (let y (+ x j)) (let g (fn () (back y))) (say (call g))]))) (run (call f))])", "0/1/1/2 end"},
		{"(for i 0 2 (do (let x i) (let f (fn () (for j 0 9 (do (let y (+ x j)) (let g (fn () (back y))) (if (= j 1) (back (call g)) (do)) (if (= j 4) (leave) (next)))))) (say (call f))))", 3, "(for i 0 2 [v0: (let x i) (let f (fn () (for j 0 9 [v1: (let y (+ x j)) (let g (fn () (back y))) (if (= j 1) (back (thing 1 (call g))) (do)) (if (= j 4) (back (thing 2)) (back (thing 3)))]))) (say (call f))])", "1/2 end"},
		{"(for i 0 2 (do (let x i) (let f (fn () (while 1 (do (say x) (leave))) (do (let y x) (let g (fn () (back y))) (say (call g))))) (run (call f))))", 2, "(for i 0 2 [v0: (let x i) (let f (fn () (while 1 (do (say x) (leave))) (do (let y x) (let g (fn () (back y))) (say (call g))))) (run (call f))])", "0/0/1/1 end"},
		{"(for i 0 2 (do (let x i) (let f (fn () (back x))) (for j 0 2 (run (call (fn () (do (let y j) (let g (fn () (back y))) (say (join (call f) (call g))))))))))", 1, "(for i 0 2 [v0: (let x i) (let f (fn () (back x))) (for j 0 2 (run (call (fn () (do (let y j) (let g (fn () (back y))) (say (join (call f) (call g))))))))])", "00/01/10/11 end"},
		// In a fn in each SUM of a loop, and in a SUM of a PARAM.
		{"(let n 0) (while (call (fn () (for i 0 1 (do (let x n) (let f (fn () (back (< x 2)))) (back (call f)))))) (do (say n) (set n (+ n 1))))", 2, "(let n 0) (while (call (fn () (for i 0 1 [v0: (let x n) (let f (fn () (back (< x 2)))) (back (thing 1 (call f)))]))) (do (say n) (set n (+ n 1))))", "0/1 end"},
		{"(for i (call (fn () (do (let x 1) (let f (fn () (back x))) (back (call f))))) (call (fn () (while 1 (do (let x 3) (let f (fn () (back x))) (back (call f)))))) (say i))", 1, "(for i (call (fn () (do (let x 1) (let f (fn () (back x))) (back (call f))))) (call (fn () (while 1 [v0: (let x 3) (let f (fn () (back x))) (back (thing 1 (call f)))]))) (say i))", "1/2 end"},
		{"(say (call (fn ((p (call (fn () (while 1 (do (let x 3) (let f (fn () (back x))) (back (call f)))))))) (for i 0 1 (do (let y p) (let f (fn () (back y))) (say (call f)))) (back p))))", 2,
			"(say (call (fn ((p (call (fn () (while 1 [v0: (let x 3) (let f (fn () (back x))) (back (thing 1 (call f)))]))))) (for i 0 1 [v1: (let y p) (let f (fn () (back y))) (say (call f))]) (back p))))", "3/3 end"},
		// Behind a vars, and in a play that is empty but for it.
		{"(vars a) (set a 4) (for i 0 2 (do (let x a) (set a (fn () (back x))) (say x) (set a (call a))))", 1, "(vars a) (set a 4) (for i 0 2 [v0: (let x a) (set a (fn () (back x))) (say x) (set a (call a))])", "4/4 end"},
		{"(say (call (fn (n) (vars s) (set s 0) (for i 0 n (do (let x i) (let f (fn () (set s (+ s x)))) (run (call f)))) (back s)) 4))", 1, "(say (call (fn (n) (vars s) (set s 0) (for i 0 n [v0: (let x i) (let f (fn () (set s (+ s x)))) (run (call f))]) (back s)) 4))", "6 end"},
	}
}

// Who is declared, and where it is used.
func wrapNameCases() []wrapCase {
	return []wrapCase{
		// By a take, by several lets and takes.
		{"(for i 0 2 (do (take (x y) (thing i (* i 7))) (let f (fn () (back y))) (say (call f))))", 1, "(for i 0 2 [v0: (take (x y) (thing i (* i 7))) (let f (fn () (back y))) (say (call f))])", "0/7 end"},
		{"(for i 0 2 (do (take (x y) (thing i (* i 7))) (let f (fn () (back x))) (say (call f))))", 1, "(for i 0 2 [v0: (take (x y) (thing i (* i 7))) (let f (fn () (back x))) (say (call f))])", "0/1 end"},
		{"(for i 0 2 (do (take (x y) (thing i (* i 7))) (say (join x y)) (let f (fn () (back i))) (say (call f))))", 1, "", "00/0/17/1 end"},
		{"(for i 0 2 (do (let w i) (let x 3) (take (y) (thing 4)) (let z 5) (let f (fn () (back (join w x y z)))) (say (call f))))", 1, "(for i 0 2 [v0: (let w i) (let x 3) (take (y) (thing 4)) (let z 5) (let f (fn () (back (join w x y z)))) (say (call f))])", "0345/1345 end"},
		{"(for i 0 2 (do (let w i) (let x 3) (take (y) (thing 4)) (let z 5) (let f (fn () (back z))) (say (call f))))", 1, "(for i 0 2 [v0: (let w i) (let x 3) (take (y) (thing 4)) (let z 5) (let f (fn () (back z))) (say (call f))])", "5/5 end"},
		// By a let whose own SUM has the fn; behind the fn.
		{"(for i 0 2 (do (let f (fn (n) (if (< n 1) (back i) (back (call f (- n 1)))))) (say (call f 3))))", 1, "(for i 0 2 [v0: (let f (fn (n) (if (< n 1) (back i) (back (call f (- n 1)))))) (say (call f 3))])", "0/1 end"},
		{"(for i 0 2 (do (let f (fn () (back x))) (say (call f)) (let x i) (say (call f))))", 1, "(for i 0 2 [v0: (let f (fn () (back x))) (say (call f)) (let x i) (say (call f))])", "none/0/none/1 end"},
		// No deeds behind the declaration.
		{"(for i 0 2 (do (let x (fn () (back x))))) (say 'z')", 1, "(for i 0 2 [v0: (let x (fn () (back x)))]) (say 'z')", "z end"},
		{"(let f none) (for i 0 2 (do (set f (fn () (back x))) (let x i))) (say (call f))", 1, "(let f none) (for i 0 2 [v0: (set f (fn () (back x))) (let x i)]) (say (call f))", "1 end"},
		{"(for i 0 2 (do (take (x) (thing (fn () (back x)))))) (say 'z')", 1, "(for i 0 2 [v0: (take (x) (thing (fn () (back x))))]) (say 'z')", "z end"},
		// In a set, in a PARAM, in a fn within a fn.
		{"(let f none) (for i 0 2 (do (let x i) (if i (run (call f)) (set f (fn () (set x 5)))) (say x)))", 1, "(let f none) (for i 0 2 [v0: (let x i) (if i (run (call f)) (set f (fn () (set x 5)))) (say x)])", "0/1 end"},
		{"(for i 0 2 (do (let x i) (let f (fn ((p x)) (back p))) (say (join (call f) (call f 7)))))", 1, "(for i 0 2 [v0: (let x i) (let f (fn ((p x)) (back p))) (say (join (call f) (call f 7)))])", "07/17 end"},
		{"(for i 0 2 (do (let x i) (let f (fn (q (p (call (fn () (set x (+ x 1)) (back x))))) (back p))) (say (join (call f) (call f 7) x))))", 1, "(for i 0 2 [v0: (let x i) (let f (fn (q (p (call (fn () (set x (+ x 1)) (back x))))) (back p))) (say (join (call f) (call f 7) x))])", "122/233 end"},
		{"(for i 0 2 (do (let x i) (let f (fn () (back (fn () (back x))))) (say (call (call f)))))", 1, "(for i 0 2 [v0: (let x i) (let f (fn () (back (fn () (back x))))) (say (call (call f)))])", "0/1 end"},
		{"(for i 0 2 (do (let x i) (let f (fn (y) (do (if 1 (while 1 (do (for j 0 1 (say (+ x y))) (leave))) (do))))) (run (call f 4))))", 2, "(for i 0 2 [v0: (let x i) (let f (fn (y) (do (if 1 (while 1 (do (for j 0 1 (say (+ x y))) (leave))) (do))))) (run (call f 4))])", "4/5 end"},
		// In each kind of sum and deed of a fn.
		{"(hidden p) (let t (thing)) (for i 0 2 (do (let x i) (let f (fn () (hput p t x))) (run (call f)) (say (hget p t))))", 1, "(hidden p) (let t (thing)) (for i 0 2 [v0: (let x i) (let f (fn () (hput p t x))) (run (call f)) (say (hget p t))])", "0/1 end"},
		{"(hidden p) (for i 0 2 (do (let x (thing)) (hput p x i) (let f (fn () (back (hget p x)))) (say (call f))))", 1, "(hidden p) (for i 0 2 [v0: (let x (thing)) (hput p x i) (let f (fn () (back (hget p x)))) (say (call f))])", "0/1 end"},
		{"(let m (table)) (for i 0 2 (do (let x (thing i)) (let f (fn () (tput m x 3) (put x 1 (tget m x)))) (run (call f)) (take (a b) x) (say (join a b))))", 1, "(let m (table)) (for i 0 2 [v0: (let x (thing i)) (let f (fn () (tput m x 3) (put x 1 (tget m x)))) (run (call f)) (take (a b) x) (say (join a b))])", "03/13 end"},
		{"(for i 0 2 (do (let x i) (run (call (fn () (for j x 2 (say (join i j))))))))", 1, "(for i 0 2 [v0: (let x i) (run (call (fn () (for j x 2 (say (join i j))))))])", "00/01/11 end"},
		{"(for i 0 2 (do (let x i) (run (call (fn () (take (a) (thing x)) (let b (join a x)) (say b))))))", 1, "(for i 0 2 [v0: (let x i) (run (call (fn () (take (a) (thing x)) (let b (join a x)) (say b))))])", "00/11 end"},
		// What only a hidden, an hget or an hput has.
		{"(let t (thing)) (for i 0 2 (do (hidden x) (hput x t i) (let f (fn () (back (hget x t)))) (say (call f))))", 1, "", "0/1 end"},
		{"(let t (thing)) (for i 0 2 (do (hidden x) (let x 5) (let f (fn () (hput x t i))) (run (call f)) (say (join x (hget x t)))))", 1, "", "50/51 end"},
		{"(let t (thing)) (for i 0 2 (do (hidden x) (let x t) (let f (fn () (hput x x i))) (run (call f)) (say (hget x t))))", 1, "(let t (thing)) (for i 0 2 [v0: (hidden x) (let x t) (let f (fn () (hput x x i))) (run (call f)) (say (hget x t))])", "0/1 end"},
		{"(let t (thing)) (for i 0 3 (do (hidden q) (let x i) (if (= i 1) (say (hget q t)) (hput q t (fn () (back x)))) (say (call (hget q t)))))", 1, "(let t (thing)) (for i 0 3 [v0: (hidden q) (let x i) (if (= i 1) (say (hget q t)) (hput q t (fn () (back x)))) (say (call (hget q t)))])", "0 key"},
		// The NAME of a for, of a PARAM around, of a vars, and of the play.
		{"(let t (thing)) (for i 0 3 (put t i (fn () (back i)))) (say (join (call (get t 0)) (call (get t 2))))", 0, "", "02 end"},
		{"(let t (thing)) (for i 0 3 (do (put t i (fn () (back i))))) (say (join (call (get t 0)) (call (get t 2))))", 1, "", "02 end"},
		{"(let t (thing)) (for i 0 3 (do (let x i) (put t x (fn () (back i))))) (say (join (call (get t 0)) (call (get t 2))))", 1, "", "02 end"},
		{"(for i 0 2 (do (for j 0 2 (run (call (fn () (say (join i j))))))))", 1, "", "00/01/10/11 end"},
		{"(let x 5) (for i 0 2 (do (let f (fn () (set x (+ x i)) (back x))) (say (call f))))", 1, "", "5/6 end"},
		{"(run (call (fn (x) (vars y) (set y x) (for i 0 2 (do (let f (fn () (back (join x y i)))) (say (call f))))) 8))", 1, "", "880/881 end"},
	}
}

// NAMEs that are declared again: in between, beside and around.
func wrapAgainCases() []wrapCase {
	return []wrapCase{
		// In between, by a PARAM.
		{"(for i 0 2 (do (let x i) (let f (fn (x) (back x))) (say (join x (call f 5)))))", 1, "", "05/15 end"},
		{"(for i 0 2 (do (let x i) (let f (fn ((x 4)) (back x))) (say (join x (call f)))))", 1, "", "04/14 end"},
		{"(for i 0 2 (do (let x i) (let f (fn ((x x)) (back x))) (say (join x (call f)))))", 1, "", "0none/1none end"},
		{"(for i 0 2 (do (let x i) (let f (fn ((y x) (x 3)) (back y))) (say (join x (call f)))))", 1, "", "0none/1none end"},
		{"(for i 0 2 (do (let x i) (let f (fn (x) (back (fn () (back x))))) (say (join x (call (call f 6))))))", 1, "", "06/16 end"},
		// By a let, a take, a vars in a fn: its own deed, and one of a do in it.
		{"(for i 0 2 (do (let x i) (let f (fn () (let x 4) (back x))) (say (join x (call f)))))", 1, "", "04/14 end"},
		{"(for i 0 2 (do (let x i) (let f (fn () (say x) (take (x) (thing 4)) (back x))) (say (join x (call f)))))", 1, "", "none/04/none/14 end"},
		{"(for i 0 2 (do (let x i) (let f (fn () (vars x) (set x 4) (back x))) (say (join x (call f)))))", 1, "", "04/14 end"},
		{"(for i 0 2 (do (let x i) (let f (fn () (do (let x 4) (back x)))) (say (join x (call f)))))", 1, "", "04/14 end"},
		{"(for i 0 2 (do (let x i) (let f (fn () (do (let x 4) (say x)) (back x))) (say (join x (call f)))))", 1, "(for i 0 2 [v0: (let x i) (let f (fn () (do (let x 4) (say x)) (back x))) (say (join x (call f)))])", "4/00/4/11 end"},
		{"(for i 0 2 (do (let x i) (let f (fn ((p x)) (let x 4) (back (join x p)))) (say (join x (call f)))))", 1, "(for i 0 2 [v0: (let x i) (let f (fn ((p x)) (let x 4) (back (join x p)))) (say (join x (call f)))])", "040/141 end"},
		{"(for i 0 2 (do (let x i) (let f (fn () (let g (fn (x) (back x))) (back (call g 6)))) (say (join x (call f)))))", 1, "", "06/16 end"},
		// By a let and a take in a do between: the inner one is kept, the outer one is not.
		{"(for i 0 2 (do (let x i) (do (let x 7) (let f (fn () (back x))) (say (call f))) (say x)))", 2, "(for i 0 2 (do (let x i) [v0: (let x 7) (let f (fn () (back x))) (say (call f))] (say x)))", "7/0/7/1 end"},
		{"(for i 0 2 (do (let x i) (do (take (x) (thing 7)) (let f (fn () (back x))) (say (call f))) (say x)))", 2, "(for i 0 2 (do (let x i) [v0: (take (x) (thing 7)) (let f (fn () (back x))) (say (call f))] (say x)))", "7/0/7/1 end"},
		{"(for i 0 2 (do (let x i) (do (let x 7) (do (let y 8) (let f (fn () (back y))) (say (join x (call f))))) (say x)))", 3, "(for i 0 2 (do (let x i) [v0: (let x 7) (do (let y 8) (let f (fn () (back y))) (say (join x (call f))))] (say x)))", "78/0/78/1 end"},
		{"(for i 0 2 (do (let x i) (do (let x 7) (let f (fn () (back x))) (say (call f))) (let f (fn () (back x))) (say (call f))))", 2, "(for i 0 2 [v0: (let x i) (do (let x 7) (let f (fn () (back x))) (say (call f))) (let f (fn () (back x))) (say (call f))])", "7/0/7/1 end"},
		// By a for between; its SUMs still know the other one.
		{"(for i 0 2 (do (let x i) (for x 4 5 (run (call (fn () (say x))))) (say x)))", 1, "", "4/0/4/1 end"},
		{"(for i 0 2 (do (let x i) (for x (call (fn () (back x))) 2 (run (call (fn () (say x))))) (say x)))", 1, "(for i 0 2 [v0: (let x i) (for x (call (fn () (back x))) 2 (run (call (fn () (say x))))) (say x)])", "0/1/0/1/1 end"},
		{"(for i 0 2 (do (let x i) (let f (fn () (for x 4 5 (say x)) (back x))) (say (call f))))", 1, "(for i 0 2 [v0: (let x i) (let f (fn () (for x 4 5 (say x)) (back x))) (say (call f))])", "4/0/4/1 end"},
		{"(for i 0 2 (do (let x i) (let f (fn () (for x 4 5 (say x)))) (run (call f)) (say x)))", 1, "", "4/0/4/1 end"},
		{"(for i 0 2 (do (let x i) (for x 4 5 (do (let y 8) (let f (fn () (back y))) (say (join x (call f))))) (say x)))", 2, "(for i 0 2 (do (let x i) (for x 4 5 [v0: (let y 8) (let f (fn () (back y))) (say (join x (call f)))]) (say x)))", "48/0/48/1 end"},
		// By a hidden: that is another matter.
		{"(let t (thing)) (for i 0 2 (do (let x i) (let f (fn () (hidden x) (hput x t 4) (back (join x (hget x t))))) (say (call f))))", 1, "(let t (thing)) (for i 0 2 [v0: (let x i) (let f (fn () (hidden x) (hput x t 4) (back (join x (hget x t))))) (say (call f))])", "04/14 end"},
		// Around and beside.
		{"(let x 9) (for i 0 2 (do (let x i) (let f (fn () (back x))) (say (call f)))) (say x)", 1, "(let x 9) (for i 0 2 [v0: (let x i) (let f (fn () (back x))) (say (call f))]) (say x)", "0/1/9 end"},
		{"(let x 9) (for i 0 2 (do (let y i) (let f (fn () (back x))) (say (call f)))) (say x)", 1, "", "9/9/9 end"},
		{"(for x 0 2 (do (let y x) (let f (fn () (back y))) (say (join x (call f)))))", 1, "(for x 0 2 [v0: (let y x) (let f (fn () (back y))) (say (join x (call f)))])", "00/11 end"},
		{"(for x 0 2 (do (let x 5) (let f (fn () (back x))) (say (call f))))", 1, "(for x 0 2 [v0: (let x 5) (let f (fn () (back x))) (say (call f))])", "5/5 end"},
		{"(for i 0 2 (do (do (let x i) (say x)) (do (let x 5) (let f (fn () (back x))) (say (call f)))))", 3, "(for i 0 2 (do (do (let x i) (say x)) [v0: (let x 5) (let f (fn () (back x))) (say (call f))]))", "0/5/1/5 end"},
		{"(run (call (fn (x) (for i 0 2 (do (let x (+ i 3)) (let f (fn () (back x))) (say (call f)))) (say x)) 8))", 1, "(run (call (fn (x) (for i 0 2 [v0: (let x (+ i 3)) (let f (fn () (back x))) (say (call f))]) (say x)) 8))", "3/4/8 end"},
		{"(run (fn (x) (let x 3))) (for i 0 2 (do (let y i) (say y) (run (fn (y) (let f (fn () (back y)))))))", 1, "", "0/1 end"},
	}
}

// back, leave and next, in whatever stands in the DEEDS. k is kept in all of
// these.
func wrapWayOutCases() []wrapCase {
	const k = "(let k (fn () (back k))) "
	return []wrapCase{
		// On their own.
		{"(for i 0 3 (do " + k + "(say i) (leave) (say 'no'))) (say 'z')", 1, "(for i 0 3 [v0: " + k + "(say i) (back (thing 2)) (say 'no')]) (say 'z')", "0/z end"},
		{"(for i 0 3 (do " + k + "(say i) (next) (say 'no'))) (say 'z')", 1, "(for i 0 3 [v0: " + k + "(say i) (back (thing 3)) (say 'no')]) (say 'z')", "0/1/2/z end"},
		{"(for i 0 3 (do " + k + "(say i) (back i) (say 'no'))) (say 'no')", 1, "(for i 0 3 [v0: " + k + "(say i) (back (thing 1 i)) (say 'no')]) (say 'no')", "0 end"},
		{"(say (call (fn () (for i 4 9 (do " + k + "(back i))) (back 'e'))))", 1, "(say (call (fn () (for i 4 9 [v0: " + k + "(back (thing 1 i))]) (back 'e'))))", "4 end"},
		{"(for i 0 3 (do (leave) " + k + ")) (say 'z')", 1, "(for i 0 3 [v0: (back (thing 2)) " + k + "]) (say 'z')", "z end"},
		// In a do, in an if.
		{"(for i 0 3 (do " + k + "(do (say i) (do (leave))) (say 'no'))) (say 'z')", 3, "(for i 0 3 [v0: " + k + "(do (say i) (do (back (thing 2)))) (say 'no')]) (say 'z')", "0/z end"},
		{"(for i 0 9 (do " + k + "(if (= i 1) (next) (do)) (if (= i 4) (leave) (do)) (say i))) (say 'z')", 3, "(for i 0 9 [v0: " + k + "(if (= i 1) (back (thing 3)) (do)) (if (= i 4) (back (thing 2)) (do)) (say i)]) (say 'z')", "0/2/3/z end"},
		{"(say (call (fn (n) (for i 0 9 (do " + k + "(if (< i n) (say i) (do (say 'b') (back (+ i i)))))) (back 'e')) 2))", 2, "(say (call (fn (n) (for i 0 9 [v0: " + k + "(if (< i n) (say i) (do (say 'b') (back (thing 1 (+ i i)))))]) (back 'e')) 2))", "0/1/b/4 end"},
		{"(for i 0 3 (do " + k + "(do (if (= i 1) (do (next)) (if (= i 2) (back 5) (say i))) (say 'd')))) (say 'no')", 3, "(for i 0 3 [v0: " + k + "(do (if (= i 1) (do (back (thing 3))) (if (= i 2) (back (thing 1 5)) (say i))) (say 'd'))]) (say 'no')", "0/d end"},
		// In a while and a for within: leave and next are theirs, back is not.
		{"(for i 0 2 (do " + k + "(while 1 (leave)) (say i)))", 1, "(for i 0 2 [v0: " + k + "(while 1 (leave)) (say i)])", "0/1 end"},
		{"(for i 0 2 (do " + k + "(for j 0 4 (if (= j 1) (next) (if (= j 3) (leave) (say (join i j))))) (say i)))", 1, "(for i 0 2 [v0: " + k + "(for j 0 4 (if (= j 1) (next) (if (= j 3) (leave) (say (join i j))))) (say i)])", "00/02/0/10/12/1 end"},
		{"(for i 0 3 (do " + k + "(while 1 (do (say i) (leave))) (if i (leave) (next)) (say 'no')))", 2, "(for i 0 3 [v0: " + k + "(while 1 (do (say i) (leave))) (if i (back (thing 2)) (back (thing 3))) (say 'no')])", "0/1 end"},
		{"(say (call (fn () (for i 0 3 (do " + k + "(for j 0 3 (do (say (join i j)) (if (= j i) (leave) (back (join 'b' i j))))))))))", 2, "(say (call (fn () (for i 0 3 [v0: " + k + "(for j 0 3 (do (say (join i j)) (if (= j i) (leave) (back (thing 1 (join 'b' i j))))))]))))", "00/10/b10 end"},
		{"(say (call (fn () (while 1 (do " + k + "(while 1 (while 1 (if 1 (back 8) (leave)))))))))", 1, "(say (call (fn () (while 1 [v0: " + k + "(while 1 (while 1 (if 1 (back (thing 1 8)) (leave))))]))))", "8 end"},
		// In a fn within: its own.
		{"(for i 0 2 (do " + k + "(say (call (fn () (back i)))) (say (call (fn () (while 1 (if i (back 'b') (leave))))))))", 1, "(for i 0 2 [v0: " + k + "(say (call (fn () (back i)))) (say (call (fn () (while 1 (if i (back 'b') (leave))))))])", "0/none/1/b end"},
		{"(for i 0 2 (do " + k + "(let f (fn ((p (call (fn () (back 3))))) (for j 0 9 (if (= j p) (back j) (next))))) (back (call f)))) (say 'no')", 1, "(for i 0 2 [v0: " + k + "(let f (fn ((p (call (fn () (back 3))))) (for j 0 9 (if (= j p) (back j) (next))))) (back (thing 1 (call f)))]) (say 'no')", "end"},
		{"(say (call (fn () (for i 0 2 (do " + k + "(back (fn () (back (fn () (back i))))))))))", 1, "(say (call (fn () (for i 0 2 [v0: " + k + "(back (thing 1 (fn () (back (fn () (back i))))))]))))", "kind"},
		{"(say (call (call (fn () (for i 0 2 (do " + k + "(back (fn () (back i)))))))))", 1, "(say (call (call (fn () (for i 0 2 [v0: " + k + "(back (thing 1 (fn () (back i))))])))))", "0 end"},
		// In a do within that is kept itself, and stands in no loop then.
		{"(for i 0 3 (do " + k + "(do (let x i) (let f (fn () (back x))) (if (call f) (leave) (next))) (say 'no'))) (say 'z')", 2, "(for i 0 3 [v0: " + k + "(do (let x i) (let f (fn () (back x))) (if (call f) (back (thing 2)) (back (thing 3)))) (say 'no')]) (say 'z')", "z end"},
		{"(say (call (fn () (for i 0 3 (do " + k + "(do (let x i) (let f (fn () (back x))) (if (call f) (back (call f)) (do))) (say i))))))", 3, "(say (call (fn () (for i 0 3 [v0: " + k + "(do (let x i) (let f (fn () (back x))) (if (call f) (back (thing 1 (call f))) (do))) (say i)]))))", "0/1 end"},
		// In one that is kept itself, in a loop within.
		{"(for i 0 2 (do " + k + "(for j 0 4 (do (let x j) (let f (fn () (back x))) (if (= j 1) (next) (do)) (if (= j 3) (leave) (do)) (say (join i (call f))))) (if i (leave) (next))))", 4,
			"(for i 0 2 [v0: " + k + "(for j 0 4 {v1: (let x j) (let f (fn () (back x))) (if (= j 1) (back (thing 3)) (do)) (if (= j 3) (back (thing 2)) (do)) (say (join i (call f)))}) (if i (back (thing 2)) (back (thing 3)))])", "00/02/10/12 end"},
		{"(say (call (fn () (for i 0 2 (do " + k + "(for j 0 4 (do (let x j) (let f (fn () (back x))) (if (= (call f) 2) (back (join i j)) (say j)))))))))", 2,
			"(say (call (fn () (for i 0 2 [v0: " + k + "(for j 0 4 {v1: (let x j) (let f (fn () (back x))) (if (= (call f) 2) (back (thing 1 (join i j))) (say j))})]))))", "0/1/02 end"},
		{"(say (call (fn () (for i 0 2 (do " + k + "(for j 0 2 (do " + k + "(while 1 (do " + k + "(if (= i j) (leave) (back (join i j)))))))))))) (say 'z')", 3,
			"(say (call (fn () (for i 0 2 [v0: " + k + "(for j 0 2 {v1: " + k + "(while 1 {v2: " + k + "(if (= i j) (back (thing 2)) (back (thing 1 (join i j))))})})])))) (say 'z')", "01/z end"},
		// In one that is not kept, around one that is.
		{"(for i 0 4 (do (if (= i 2) (leave) (do)) (do " + k + "(if i (next) (do)) (say i)) (say 'd')))", 4, "(for i 0 4 (do (if (= i 2) (leave) (do)) [v0: " + k + "(if i (back (thing 3)) (do)) (say i)] (say 'd')))", "0/d end"},
		{"(say (call (fn () (for i 0 4 (do (do " + k + "(say i)) (if i (back 'b') (next)))))))", 2, "(say (call (fn () (for i 0 4 (do [v0: " + k + "(say i)] (if i (back 'b') (next)))))))", "0/1/b end"},
		// DEEDS that come to their end, whatever a fn called there says back.
		{"(let f (fn () (back (thing 2)))) (for i 0 2 (do " + k + "(say i) (run (call f)))) (say 'z')", 1, "(let f (fn () (back (thing 2)))) (for i 0 2 [v0: " + k + "(say i) (run (call f))]) (say 'z')", "0/1/z end"},
		{"(for i 0 2 (do " + k + "(say i) (do) (if 0 (leave) (do)) (while 0 (back 1)))) (say 'z')", 3, "(for i 0 2 [v0: " + k + "(say i) (do) (if 0 (back (thing 2)) (do)) (while 0 (back (thing 1 1)))]) (say 'z')", "0/1/z end"},
	}
}

// What back says: each kind of value, none and things like those that stand for a
// way out among them.
func wrapValueCases() []wrapCase {
	const ahead = "(let g (fn (v) (for i 0 2 (do (let x v) (let f (fn () (back x))) (say i) (back (call f)) (say 'no'))) (back 'e'))) "
	const again = "(let g (fn (v) (for i 0 2 [v0: (let x v) (let f (fn () (back x))) (say i) (back (thing 1 (call f))) (say 'no')]) (back 'e'))) "
	out := []wrapCase{}
	for _, c := range [][2]string{
		{"(say (call g 0))", "0/0 end"}, {"(say (call g 1))", "0/1 end"}, {"(say (call g 2))", "0/2 end"}, {"(say (call g 3))", "0/3 end"}, {"(say (call g -999999999))", "0/-999999999 end"},
		{"(say (call g ''))", "0/ end"}, {"(say (call g '1'))", "0/1 end"}, {"(say (call g 'none'))", "0/none end"},
		{"(say (call g none))", "0/none end"}, {"(say (= none (call g)))", "0/1 end"},
		{"(say (get (call g (thing 1 5)) 1))", "0/5 end"}, {"(say (get (call g (thing 2)) 0))", "0/2 end"}, {"(say (get (call g (thing 3)) 0))", "0/3 end"}, {"(say (get (call g (thing)) 0))", "0/none end"}, {"(let t (thing 2)) (say (= t (call g t)))", "0/1 end"}, {"(let t (thing (thing 1 none))) (say (= (get t 0) (get (call g t) 0)))", "0/1 end"},
		{"(say (call (call g (fn () (back 6)))))", "0/6 end"}, {"(let m (table)) (say (= m (call g m)))", "0/1 end"}, {"(say (call g (thing 1 5)))", "0 kind"},
	} {
		out = append(out, wrapCase{ahead + c[0], 1, again + c[0], c[1]})
	}
	return out
}

// Fresh names' own texts.
func wrapFreshCases() []wrapCase {
	return []wrapCase{
		{"(for i 0 2 (do (let v0 i) (let f (fn () (back v0))) (say (call f))))", 1, "(for i 0 2 [v1: (let v0 i) (let f (fn () (back v0))) (say (call f))])", "0/1 end"},
		{"(for v0 0 2 (do (let v1 v0) (let v2 (fn () (back v1))) (say (call v2))))", 1, "(for v0 0 2 [v3: (let v1 v0) (let v2 (fn () (back v1))) (say (call v2))])", "0/1 end"},
		{"(let v1 5) (for i 0 1 (do (let x i) (let f (fn () (back x))) (for j 0 1 (do (let y j) (let f (fn () (back (join v1 y)))) (say (call f))))))", 2, "(let v1 5) (for i 0 1 [v0: (let x i) (let f (fn () (back x))) (for j 0 1 {v2: (let y j) (let f (fn () (back (join v1 y)))) (say (call f))})])", "50 end"},
		{"(hidden v0) (let t (thing)) (for i 0 1 (do (let x i) (let f (fn (v2) (hput v0 t x))) (run (call f)) (say (hget v0 t))))", 1, "(hidden v0) (let t (thing)) (for i 0 1 [v1: (let x i) (let f (fn (v2) (hput v0 t x))) (run (call f)) (say (hget v0 t))])", "0 end"},
		{"(let v 1) (let v00 2) (let v01 3) (let w0 4) (let v10 5) (for i 0 1 (do (let x 'v0') (let f (fn () (back (& x v01)))) (say (call f))))", 1, "(let v 1) (let v00 2) (let v01 3) (let w0 4) (let v10 5) (for i 0 1 [v0: (let x 'v0') (let f (fn () (back (& x v01)))) (say (call f))])", "v03 end"},
		{"(for i 0 1 (do (let kept i) (let fn0 (fn () (back kept))) (let leaves 2) (let backs 3) (say (join (call fn0) leaves backs)))) (say 'do let') (let abcdefgh 1) (say abcdefgh)", 1, "(for i 0 1 [v0: (let kept i) (let fn0 (fn () (back kept))) (let leaves 2) (let backs 3) (say (join (call fn0) leaves backs))]) (say 'do let') (let abcdefgh 1) (say abcdefgh)", "023/do let/1 end"},
	}
}

// Where each fault ends the play, and too much at once.
func wrapFaultCases() []wrapCase {
	one := func(ahead string, deed string, words string) wrapCase {
		const first = "(let x i) (let f (fn () (back x))) (say (call f)) (if (= i 1) "
		return wrapCase{ahead + "(for i 0 3 (do " + first + deed + " (do)))) (say 'no')", 2, ahead + "(for i 0 3 [v0: " + first + deed + " (do))]) (say 'no')", words}
	}
	return []wrapCase{
		one("", "(say (+ 1 none))", "0/1 kind"),
		one("", "(say "+over+")", "0/1 over"),
		one("(let m (table)) (let t (thing)) ", "(say (tget m t))", "0/1 key"),
		one("", "(while 1 (run 1))", "0/1 fuel"),
		one("(let t (thing)) ", "(for j 0 99 (put t j j))", "0/1 many"),
		one("", "(while none (leave))", "0/1 kind"),
		one("", "(run (get 1 1))", "0/1 kind"),
		one("", "(run (call 5))", "0/1 kind"),
		{"(for i 0 3 (do (let x (+ i none)) (run (fn () (back x))) (say 'no'))) (say 'no')", 1, "(for i 0 3 [v0: (let x (+ i none)) (run (fn () (back x))) (say 'no')]) (say 'no')", "kind"},
		{"(for i 0 3 (do (let x i) (run (fn () (back x))) (say i) (back (+ i none)))) (say 'no')", 1, "(for i 0 3 [v0: (let x i) (run (fn () (back x))) (say i) (back (thing 1 (+ i none)))]) (say 'no')", "0 kind"},
		{"(for i 0 3 (do (take (x) i) (run (fn () (back x))) (say 'no'))) (say 'no')", 1, "(for i 0 3 [v0: (take (x) i) (run (fn () (back x))) (say 'no')]) (say 'no')", "kind"},
	}
}

func wrapCases() []wrapCase {
	return slices.Concat(wrapWithinCases(), wrapPlaceCases(), wrapNameCases(), wrapAgainCases(), wrapWayOutCases(), wrapValueCases(), wrapFreshCases(), wrapFaultCases())
}

// notWrapped are pages that are Scoped and have nothing Captured.
func notWrapped() []string {
	out := slices.Concat(oldTongue(), noTurns())
	for _, c := range wrapCases() {
		if !c.captured() {
			out = append(out, c.page)
		}
	}
	return out
}
