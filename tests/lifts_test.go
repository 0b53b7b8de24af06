package tests

import (
	"slices"
	"strings"
)

// The document's words about what is lifted, as they stand there: the tests hold
// the program against these. The program goes by places of signs, and adds to a
// copy of them; this goes up from each NAME to the let that declares it, and fills
// the document's own lines.

var (
	liftedSetTree = formTree("(set F SUM)")
	liftedDoTree  = formTree("(do NONES DEEDS)")
	setNoneTree   = formTree("(set F none)")
	liftedFnTree  = formTree("(fn PARAMS VARS DEEDS)")
	allVarsTree   = formTree("(vars HAD NAMES)")
)

// A slowLifter knows of each let, by its spot, which fresh name it has.
type slowLifter struct {
	slowTaker
	fresh map[*spot]tree
}

// letsWithin are the lets in an item, in the order in which they begin.
func letsWithin(n *spot) []*spot {
	var out []*spot
	if n.head() == "let" {
		out = append(out, n)
	}
	for _, inner := range n.inside {
		out = append(out, letsWithin(inner)...)
	}
	return out
}

func slowLifterOf(l []string, play *spot) *slowLifter {
	out := &slowLifter{slowTaker{play: l}, map[*spot]tree{}}
	for _, let := range letsWithin(play) {
		out.fresh[let] = out.slowTaker.fresh()
	}
	return out
}

// function is the fn that an item stands in, or the play.
func (s *spot) function() *spot {
	at := s.around
	for at.around != nil && at.head() != "fn" {
		at = at.around
	}
	return at
}

// letOf is the let that declares a NAME which is used there, nil where something
// else does. A fn that declares it by a PARAM, too, has the let further within.
func letOf(use *spot) *spot {
	by := use.declaredBy()
	if by == nil {
		return nil
	}
	for _, deed := range by.inside {
		if deed.head() == "let" && deed.inside[1].sign == use.sign {
			return deed
		}
	}
	return nil
}

// freshOf are the names of those lets of an item for which that is so.
func (s *slowLifter) freshOf(n *spot, is func(let *spot) bool) []tree {
	var out []tree
	for _, let := range letsWithin(n) {
		if is(let) {
			out = append(out, s.fresh[let])
		}
	}
	return out
}

func (s *slowLifter) said(n *spot) tree {
	if n.isUse() {
		if let := letOf(n); let != nil {
			return s.fresh[let]
		}
		return n.tree
	}
	switch n.head() {
	case "let":
		return filling{"F": {s.fresh[n]}, "SUM": {s.said(n.inside[2])}}.fill(liftedSetTree)[0]
	case "do":
		var nones []tree
		for _, f := range s.freshOf(n, func(let *spot) bool { return let.around == n }) {
			nones = append(nones, filling{"F": {f}}.fill(setNoneTree)...)
		}
		return filling{"NONES": nones, "DEEDS": s.saidAll(n.inside[1:])}.fill(liftedDoTree)[0]
	case "fn":
		vars, deeds := s.withVars(n, n.inside[2:])
		return filling{"PARAMS": {n.inside[1].tree}, "VARS": vars, "DEEDS": deeds}.fill(liftedFnTree)[0]
	}
	return tree{n.sign, n.isList, s.saidAll(n.inside)}
}

func (s *slowLifter) saidAll(list []*spot) []tree {
	var out []tree
	for _, n := range list {
		out = append(out, s.said(n))
	}
	return out
}

// withVars are the vars that a play or a fn begins with, if it has some, and its
// deeds behind that.
func (s *slowLifter) withVars(function *spot, deeds []*spot) ([]tree, []tree) {
	names := s.freshOf(function, func(let *spot) bool { return let.function() == function })
	var had, vars []tree
	if len(deeds) > 0 && deeds[0].head() == "vars" {
		had, vars, deeds = deeds[0].within[1:], []tree{deeds[0].tree}, deeds[1:]
	}
	if len(names) > 0 {
		vars = filling{"HAD": had, "NAMES": names}.fill(allVarsTree)
	}
	return vars, s.saidAll(deeds)
}

// A liftAnswers is what the two functions of the chapter answer of one list.
type liftAnswers struct {
	lets []string
	said []string
}

// isBarred asks for a word of which the chapter says that it says nothing then.
func isBarred(word string) bool {
	return slices.Contains(strings.Fields("given hidden take for"), word)
}

func liftedSlowly(l []string) liftAnswers {
	if !scopeSlowly(l).scoped {
		return liftAnswers{}
	}
	play, out := spotOf(playTree(l), nil, 0), liftAnswers{}
	for _, let := range letsWithin(play) {
		out.lets = append(out.lets, let.inside[1].sign)
	}
	isCaptured := slices.ContainsFunc(play.loopDosIn(), func(do *spot) bool { return do.kept })
	if isCaptured || slices.ContainsFunc(newSlowly(l), isBarred) {
		return out
	}
	vars, deeds := slowLifterOf(l, play).withVars(play, play.inside[1:])
	if out.said = signsOfTrees(append(vars, deeds...)); !playSlowly(out.said) {
		out.said = nil
	}
	return out
}

// A liftCase is a page, the NAMEs of its lets, what it is said again as, and what
// both say. [F G] stands for (set F none) (set G none).
type liftCase struct {
	page  string
	lets  string
	again string
	words string
}

// nonesPage writes out what stands as [F G].
func nonesPage(page string) string {
	for {
		ahead, behind, is := strings.Cut(page, "[")
		if !is {
			return page
		}
		names, behind, _ := strings.Cut(behind, "]")
		page = ahead + "(set " + strings.Join(strings.Fields(names), " none) (set ") + " none)" + behind
	}
}

// No, one and several, in each place; written out in full where it is new.
func liftPlaceCases() []liftCase {
	return []liftCase{
		{"", "", "", "end"},
		{"(say 1)", "", "(say 1)", "1 end"},
		{"(vars a) (set a 1) (say a)", "", "(vars a) (set a 1) (say a)", "1 end"},
		// In the play itself.
		{"(let a 1)", "a", "(vars v0) (set v0 1)", "end"},
		{"(let a 1) (say a)", "a", "(vars v0) (set v0 1) (say v0)", "1 end"},
		{"(say 1) (let a 2) (say a)", "a", "(vars v0) (say 1) (set v0 2) (say v0)", "1/2 end"},
		{"(let b 1) (let a 2) (let c (+ a b)) (say c)", "b a c", "(vars v0 v1 v2) (set v0 1) (set v1 2) (set v2 (+ v1 v0)) (say v2)", "3 end"},
		// In a do, in a do in a do; several in one, and beside one another.
		{"(do (let a 1))", "a", "(vars v0) (do (set v0 none) (set v0 1))", "end"},
		{"(do (let a 1) (say a))", "a", "(vars v0) (do (set v0 none) (set v0 1) (say v0))", "1 end"},
		{"(do (say 1) (let b 2) (let a 3) (say (join a b)))", "b a", "(vars v0 v1) (do (set v0 none) (set v1 none) (say 1) (set v0 2) (set v1 3) (say (join v1 v0)))", "1/32 end"},
		{"(do (do (do (let a 1) (say a)) (say 2)))", "a", "(vars v0) (do (do (do (set v0 none) (set v0 1) (say v0)) (say 2)))", "1/2 end"},
		{"(do (let a 1) (do (let b 2) (let c 3) (say (join a b c))) (let d 4) (say d))", "a b c d", "(vars v0 v1 v2 v3) (do (set v0 none) (set v3 none) (set v0 1) (do (set v1 none) (set v2 none) (set v1 2) (set v2 3) (say (join v0 v1 v2))) (set v3 4) (say v3))", "123/4 end"},
		{"(do (do (let a 1) (say a)) (let b 2) (do (let c 3) (say c)) (say b))", "a b c", "(vars v0 v1 v2) (do [v1] (do [v0] (set v0 1) (say v0)) (set v1 2) (do [v2] (set v2 3) (say v2)) (say v1))", "1/3/2 end"},
		{"(do (let a 1) (say a)) (do) (do (let b 2) (say b)) (let c 3) (say c)", "a b c", "(vars v0 v1 v2) (do [v0] (set v0 1) (say v0)) (do) (do [v1] (set v1 2) (say v1)) (set v2 3) (say v2)", "1/2/3 end"},
		{"(let a 1) (do (say a) (do (let b a) (say b)))", "a b", "(vars v0 v1) (set v0 1) (do (say v0) (do [v1] (set v1 v0) (say v1)))", "1/1 end"},
		// In a do in an if and in a while.
		{"(if 1 (do (let a 1) (say a)) (do (let b 2) (say b)))", "a b", "(vars v0 v1) (if 1 (do [v0] (set v0 1) (say v0)) (do [v1] (set v1 2) (say v1)))", "1 end"},
		{"(if 0 (say 1) (do (let a 2) (say a)))", "a", "(vars v0) (if 0 (say 1) (do [v0] (set v0 2) (say v0)))", "2 end"},
		{"(let n 0) (while (< n 3) (do (let a n) (set n (+ n 1)) (say a)))", "n a", "(vars v0 v1) (set v0 0) (while (< v0 3) (do [v1] (set v1 v0) (set v0 (+ v0 1)) (say v1)))", "0/1/2 end"},
		{"(let n 0) (while (< n 2) (do (set n (+ n 1)) (if (= n 1) (do (let a n) (say a)) (do (do (let a (* n 5)) (say a))))))", "n a a", "(vars v0 v1 v2) (set v0 0) (while (< v0 2) (do (set v0 (+ v0 1)) (if (= v0 1) (do [v1] (set v1 v0) (say v1)) (do (do [v2] (set v2 (* v0 5)) (say v2))))))", "1/10 end"},
		{"(while 1 (while 1 (do (let a 1) (say a) (back 2))))", "a", "(vars v0) (while 1 (while 1 (do [v0] (set v0 1) (say v0) (back 2))))", "1 end"},
		// In a fn: the play has none then.
		{"(say (call (fn () (let a 1) (back a))))", "a", "(say (call (fn () (vars v0) (set v0 1) (back v0))))", "1 end"},
		{"(say (call (fn (x y) (let a x) (let b y) (back (- a b))) 7 4))", "a b", "(say (call (fn (x y) (vars v0 v1) (set v0 x) (set v1 y) (back (- v0 v1))) 7 4))", "3 end"},
		{"(run (fn () (let a 1)))", "a", "(run (fn () (vars v0) (set v0 1)))", "end"},
		{"(say (call (fn () (say 1) (let a 2) (back a))))", "a", "(say (call (fn () (vars v0) (say 1) (set v0 2) (back v0))))", "1/2 end"},
		// In a do in a fn, in a do in a while in one.
		{"(say (call (fn (x) (do (let a x) (back a))) 6))", "a", "(say (call (fn (x) (vars v0) (do [v0] (set v0 x) (back v0))) 6))", "6 end"},
		{"(say (call (fn (x) (while (< x 3) (do (let a x) (set x (+ x 1)) (say a))) (let b x) (back b)) 1))", "a b", "(say (call (fn (x) (vars v0 v1) (while (< x 3) (do [v0] (set v0 x) (set x (+ x 1)) (say v0))) (set v1 x) (back v1)) 1))", "1/2/3 end"},
		{"(run (call (fn () (do (do (let a 4) (say a)) (if 1 (do (let b 5) (say b)) (do))))))", "a b", "(run (call (fn () (vars v0 v1) (do (do [v0] (set v0 4) (say v0)) (if 1 (do [v1] (set v1 5) (say v1)) (do))))))", "4/5 end"},
		// In a fn in a fn: each has its own, and one that has none stays as it is.
		{"(say (call (call (fn () (let a 1) (back (fn () (let b 2) (back (+ a b))))))))", "a b", "(say (call (call (fn () (vars v0) (set v0 1) (back (fn () (vars v1) (set v1 2) (back (+ v0 v1))))))))", "3 end"},
		{"(say (call (call (fn (x) (back (fn () (let b 2) (back (+ x b))))) 3)))", "b", "(say (call (call (fn (x) (back (fn () (vars v0) (set v0 2) (back (+ x v0))))) 3)))", "5 end"},
		{"(say (call (call (fn () (let a 1) (back (fn (x) (back (+ a x)))))) 4))", "a", "(say (call (call (fn () (vars v0) (set v0 1) (back (fn (x) (back (+ v0 x)))))) 4))", "5 end"},
		{"(say (call (call (fn () (let a 1) (back (fn (x) (back (+ a x)))))) none))", "a", "(say (call (call (fn () (vars v0) (set v0 1) (back (fn (x) (back (+ v0 x)))))) none))", "kind"},
		{"(run (call (fn () (run (call (fn () (do (let a 1) (run (call (fn () (say a)))))))))))", "a", "(run (call (fn () (run (call (fn () (vars v0) (do [v0] (set v0 1) (run (call (fn () (say v0)))))))))))", "1 end"},
		{"(run (call (fn () (run (call (fn () (let a 1) (say a)))) (let b 2) (run (call (fn () (let c 3) (say c)))) (say b))))", "a b c", "(run (call (fn () (vars v1) (run (call (fn () (vars v0) (set v0 1) (say v0)))) (set v1 2) (run (call (fn () (vars v2) (set v2 3) (say v2)))) (say v1))))", "1/3/2 end"},
		// In a fn in a let's SUM, and in that again.
		{"(let f (fn () (let a 1) (back a))) (say (call f))", "f a", "(vars v0) (set v0 (fn () (vars v1) (set v1 1) (back v1))) (say (call v0))", "1 end"},
		{"(let f (fn () (let g (fn () (let a 4) (back a))) (back (call g)))) (let b 2) (say (+ b (call f)))", "f g a b", "(vars v0 v3) (set v0 (fn () (vars v1) (set v1 (fn () (vars v2) (set v2 4) (back v2))) (back (call v1)))) (set v3 2) (say (+ v3 (call v0)))", "6 end"},
		{"(do (let f (fn (x) (do (let a x) (back a)))) (say (call f 3)))", "f a", "(vars v0) (do [v0] (set v0 (fn (x) (vars v1) (do [v1] (set v1 x) (back v1)))) (say (call v0 3)))", "3 end"},
		{"(do (do (let f (fn () (back (fn () (let a 1) (back a))))) (say (call (call f)))) (let b 2) (say b))", "f a b", "(vars v0 v2) (do [v2] (do [v0] (set v0 (fn () (back (fn () (vars v1) (set v1 1) (back v1))))) (say (call (call v0)))) (set v2 2) (say v2))", "1/2 end"},
	}
}

// What a vars has already, of a play and of a fn, with lets and with none.
func liftVarsCases() []liftCase {
	return []liftCase{
		{"(vars q) (let f (fn (x) (let y x) (back (+ y q)))) (set q 1) (say (call f 4))", "f y", "(vars q v0) (set v0 (fn (x) (vars v1) (set v1 x) (back (+ v1 q)))) (set q 1) (say (call v0 4))", "5 end"},
		{"(vars) (let a 1) (say a)", "a", "(vars v0) (set v0 1) (say v0)", "1 end"},
		{"(vars) (say 1)", "", "(vars) (say 1)", "1 end"},
		{"(vars b a) (let c 1) (set a c) (let d 2) (say (join a b c d))", "c d", "(vars b a v0 v1) (set v0 1) (set a v0) (set v1 2) (say (join a b v0 v1))", "1none12 end"},
		{"(vars a) (do (let b 1) (set a b)) (say a)", "b", "(vars a v0) (do [v0] (set v0 1) (set a v0)) (say a)", "1 end"},
		{"(vars a) (set a (fn () (let b 1) (back b))) (say (call a))", "b", "(vars a) (set a (fn () (vars v0) (set v0 1) (back v0))) (say (call a))", "1 end"},
		{"(let a 1) (say (call (fn () (vars b) (set b a) (back b))))", "a", "(vars v0) (set v0 1) (say (call (fn () (vars b) (set b v0) (back b))))", "1 end"},
		{"(say (call (fn (x) (vars y) (let z 3) (set y (+ x z)) (back y)) 4))", "z", "(say (call (fn (x) (vars y v0) (set v0 3) (set y (+ x v0)) (back y)) 4))", "7 end"},
		{"(say (call (fn () (vars) (do (let z 3) (back z)))))", "z", "(say (call (fn () (vars v0) (do [v0] (set v0 3) (back v0)))))", "3 end"},
		{"(vars f) (set f (fn (n) (vars a b) (let c n) (set a (fn () (vars d) (set d c) (let e d) (back e))) (back (call a)))) (let g f) (say (call g 8))", "c e g", "(vars f v2) (set f (fn (n) (vars a b v0) (set v0 n) (set a (fn () (vars d v1) (set d v0) (set v1 d) (back v1))) (back (call a)))) (set v2 f) (say (call v2 8))", "8 end"},
		// One NAME of a vars and of a let within, and the other way round.
		{"(vars a) (set a 1) (do (let a 2) (say a) (set a 3) (say a)) (say a)", "a", "(vars a v0) (set a 1) (do [v0] (set v0 2) (say v0) (set v0 3) (say v0)) (say a)", "2/3/1 end"},
		{"(vars a) (set a 1) (say (call (fn () (let a 2) (back a)))) (say a)", "a", "(vars a) (set a 1) (say (call (fn () (vars v0) (set v0 2) (back v0)))) (say a)", "2/1 end"},
		{"(let a 1) (say (call (fn () (vars a) (set a 2) (do (let a 3) (say a)) (back a)))) (say a)", "a a", "(vars v0) (set v0 1) (say (call (fn () (vars a v1) (set a 2) (do [v1] (set v1 3) (say v1)) (back a)))) (say v0)", "3/2/1 end"},
		{"(let a 1) (do (let a 4) (say (call (fn () (vars a) (set a 2) (back a)))) (say a)) (say a)", "a a", "(vars v0 v1) (set v0 1) (do [v1] (set v1 4) (say (call (fn () (vars a) (set a 2) (back a)))) (say v1)) (say v0)", "2/4/1 end"},
	}
}

// One NAME in several places, and where which one of it is known.
func liftNameCases() []liftCase {
	return []liftCase{
		// In blocks within one another and side by side.
		{"(let a 1) (do (let a 2) (say a)) (say a)", "a a", "(vars v0 v1) (set v0 1) (do (set v1 none) (set v1 2) (say v1)) (say v0)", "2/1 end"},
		{"(let a 1) (do (let a 2) (do (let a 3) (set a (+ a 4)) (say a)) (say a)) (say a)", "a a a", "(vars v0 v1 v2) (set v0 1) (do [v1] (set v1 2) (do [v2] (set v2 3) (set v2 (+ v2 4)) (say v2)) (say v1)) (say v0)", "7/2/1 end"},
		{"(do (let a 1) (say a)) (do (let a 2) (say a)) (do (say a)) (let a 3) (say a)", "a a a", "(vars v0 v1 v2) (do [v0] (set v0 1) (say v0)) (do [v1] (set v1 2) (say v1)) (do (say v2)) (set v2 3) (say v2)", "1/2/none/3 end"},
		{"(let a 1) (let f (fn () (let a 2) (back a))) (let g (fn () (back a))) (say (join (call f) (call g)))", "a f a g", "(vars v0 v1 v3) (set v0 1) (set v1 (fn () (vars v2) (set v2 2) (back v2))) (set v3 (fn () (back v0))) (say (join (call v1) (call v3)))", "21 end"},
		{"(let a 1) (say (call (fn () (do (let a 2) (say a)) (back a))))", "a a", "(vars v0) (set v0 1) (say (call (fn () (vars v1) (do [v1] (set v1 2) (say v1)) (back v0))))", "2/1 end"},
		// In a fn that has a PARAM of it.
		{"(say (call (fn (a) (let a 2) (back a)) 7))", "a", "(say (call (fn (a) (vars v0) (set v0 2) (back v0)) 7))", "2 end"},
		{"(say (call (fn (a b) (say a) (let a (+ b 1)) (back a)) 7 8))", "a", "(say (call (fn (a b) (vars v0) (say v0) (set v0 (+ b 1)) (back v0)) 7 8))", "none/9 end"},
		{"(say (call (fn (a) (do (let a 2) (say a)) (back a)) 7))", "a", "(say (call (fn (a) (vars v0) (do [v0] (set v0 2) (say v0)) (back a)) 7))", "2/7 end"},
		{"(let a 1) (say (call (fn (a) (set a (+ a 1)) (back a)) 7)) (say a)", "a", "(vars v0) (set v0 1) (say (call (fn (a) (set a (+ a 1)) (back a)) 7)) (say v0)", "8/1 end"},
		{"(let a 1) (say (call (fn (x a) (back (call (fn () (let b a) (back (join a b x)))))) a 7)) (say a)", "a b", "(vars v0) (set v0 1) (say (call (fn (x a) (back (call (fn () (vars v1) (set v1 a) (back (join a v1 x)))))) v0 7)) (say v0)", "771/1 end"},
		// Ahead of its let, in its own SUM, in a set.
		{"(say a) (let a 1) (say a)", "a", "(vars v0) (say v0) (set v0 1) (say v0)", "none/1 end"},
		{"(set a 5) (say a) (let a (+ a 1)) (say a)", "a", "(vars v0) (set v0 5) (say v0) (set v0 (+ v0 1)) (say v0)", "5/6 end"},
		{"(let a (= a none)) (say a)", "a", "(vars v0) (set v0 (= v0 none)) (say v0)", "1 end"},
		{"(let a 7) (do (say a) (let a (join 'x' a)) (say a)) (say a)", "a a", "(vars v0 v1) (set v0 7) (do [v1] (say v1) (set v1 (join 'x' v1)) (say v1)) (say v0)", "none/xnone/7 end"},
		{"(do (set a 1) (say a) (set a 2) (let a a) (set a (+ a a)) (say a))", "a", "(vars v0) (do [v0] (set v0 1) (say v0) (set v0 2) (set v0 v0) (set v0 (+ v0 v0)) (say v0))", "1/4 end"},
		{"(say (call (fn () (set a 3) (if 0 (do (let b 1) (back b)) (do)) (back a) (let a 9))))", "b a", "(say (call (fn () (vars v0 v1) (set v1 3) (if 0 (do [v0] (set v0 1) (back v0)) (do)) (back v1) (set v1 9))))", "3 end"},
		// In a fn within: ahead of its let, in its own SUM, in a set there.
		{"(let f (fn () (set a (+ a 1)) (back a))) (let a 4) (say (call f)) (say (call f)) (say a)", "f a", "(vars v0 v1) (set v0 (fn () (set v1 (+ v1 1)) (back v1))) (set v1 4) (say (call v0)) (say (call v0)) (say v1)", "5/6/6 end"},
		{"(let f (fn (n) (if (< n 2) (back 1) (back (* n (call f (- n 1))))))) (say (call f 5))", "f", "(vars v0) (set v0 (fn (n) (if (< n 2) (back 1) (back (* n (call v0 (- n 1))))))) (say (call v0 5))", "120 end"},
		{"(do (let f (fn () (back a))) (say (call f)) (let a 4) (say (call f)))", "f a", "(vars v0 v1) (do [v0 v1] (set v0 (fn () (back v1))) (say (call v0)) (set v1 4) (say (call v0)))", "none/4 end"},
		{"(let a (call (fn () (set a 3) (back (+ a 1))))) (say a)", "a", "(vars v0) (set v0 (call (fn () (set v0 3) (back (+ v0 1))))) (say v0)", "4 end"},
		// Behind the do that has the let, where another one is known.
		{"(do (let a 2) (say a)) (say a) (let a 1) (do (say a))", "a a", "(vars v0 v1) (do [v0] (set v0 2) (say v0)) (say v1) (set v1 1) (do (say v1))", "2/none/1 end"},
		{"(let a 1) (if a (do (let a 2) (say a)) (say a)) (while (< a 3) (do (set a (+ a 1)) (do (let a 9) (say a)) (say a))) (say a)", "a a a", "(vars v0 v1 v2) (set v0 1) (if v0 (do [v1] (set v1 2) (say v1)) (say v0)) (while (< v0 3) (do (set v0 (+ v0 1)) (do [v2] (set v2 9) (say v2)) (say v0))) (say v0)", "2/9/2/9/3/3 end"},
		{"(say (call (fn (a) (if a (do (let a 'in') (say a)) (do)) (set a (+ a 1)) (back a)) 1))", "a", "(say (call (fn (a) (vars v0) (if a (do [v0] (set v0 'in') (say v0)) (do)) (set a (+ a 1)) (back a)) 1))", "in/2 end"},
		// In each kind of sum and deed.
		{"(let t (thing)) (let k 'k') (let m (table)) (put t k k) (tput m t (get t k)) (run (call (fn (x) (say x)) (tget m t))) (if (= k k) (while (< 0 1) (leave)) (do)) (say (join (- 1 1) (* 1 1) (& k k))) (back k)", "t k m",
			"(vars v0 v1 v2) (set v0 (thing)) (set v1 'k') (set v2 (table)) (put v0 v1 v1) (tput v2 v0 (get v0 v1)) (run (call (fn (x) (say x)) (tget v2 v0))) (if (= v1 v1) (while (< 0 1) (leave)) (do)) (say (join (- 1 1) (* 1 1) (& v1 v1))) (back v1)", "k/01kk end"},
		{"(let n 2) (say (+ n (- n (* n (< n n))))) (say (thing n)) (say n)", "n", "(vars v0) (set v0 2) (say (+ v0 (- v0 (* v0 (< v0 v0))))) (say (thing v0)) (say v0)", "4 kind"},
		// Names of all lengths, and those that look like a word.
		{"(let abcdefgh 1) (let lets 2) (let let0 3) (let v 4) (say (join abcdefgh lets let0 v 'let a')) (say 'v0')", "abcdefgh lets let0 v", "(vars v0 v1 v2 v3) (set v0 1) (set v1 2) (set v2 3) (set v3 4) (say (join v0 v1 v2 v3 'let a')) (say 'v0')", "1234let a/v0 end"},
	}
}

// dos and fns that are done more than once: each time anew.
func liftAgainCases() []liftCase {
	return []liftCase{
		{"(let n 0) (while (< n 3) (do (set n (+ n 1)) (say a) (let a n) (say a)))", "n a", "(vars v0 v1) (set v0 0) (while (< v0 3) (do [v1] (set v0 (+ v0 1)) (say v1) (set v1 v0) (say v1)))", "none/1/none/2/none/3 end"},
		{"(let n 0) (while (< n 2) (do (set n (+ n 1)) (do (say a) (let a n) (do (say b) (let b (* a 5)) (say (join a b))))))", "n a b", "(vars v0 v1 v2) (set v0 0) (while (< v0 2) (do (set v0 (+ v0 1)) (do [v1] (say v1) (set v1 v0) (do [v2] (say v2) (set v2 (* v1 5)) (say (join v1 v2))))))", "none/none/15/none/none/210 end"},
		// Left by a leave, a next, a back.
		{"(let n 0) (while (< n 4) (do (set n (+ n 1)) (say a) (let a n) (if (= n 1) (next) (do)) (let b 5) (if (= n 3) (leave) (do)) (say (join a b)))) (say n)", "n a b", "(vars v0 v1 v2) (set v0 0) (while (< v0 4) (do [v1 v2] (set v0 (+ v0 1)) (say v1) (set v1 v0) (if (= v0 1) (next) (do)) (set v2 5) (if (= v0 3) (leave) (do)) (say (join v1 v2)))) (say v0)", "none/none/25/none/3 end"},
		{"(let f (fn (n) (while 1 (do (say a) (let a n) (set n (+ n 1)) (if (= a 3) (back (join a n)) (do)))))) (say (call f 2)) (say (call f 3))", "f a", "(vars v0) (set v0 (fn (n) (vars v1) (while 1 (do [v1] (say v1) (set v1 n) (set n (+ n 1)) (if (= v1 3) (back (join v1 n)) (do)))))) (say (call v0 2)) (say (call v0 3))", "none/none/34/none/34 end"},
		{"(let n 0) (while (< n 2) (do (let a n) (set n (+ n 1)) (while 1 (do (say b) (let b a) (say b) (leave))) (say a)))", "n a b", "(vars v0 v1 v2) (set v0 0) (while (< v0 2) (do [v1] (set v1 v0) (set v0 (+ v0 1)) (while 1 (do [v2] (say v2) (set v2 v1) (say v2) (leave))) (say v1)))", "none/0/0/none/1/1 end"},
		{"(let n 0) (while (< n 3) (do (set n (+ n 1)) (if (= n 2) (do (set a 7) (say a) (next)) (do)) (let b n) (say (join b a)) (do (let a b) (say a)) (let a 9)))", "n b a a", "(vars v0 v1 v2 v3) (set v0 0) (while (< v0 3) (do [v1 v3] (set v0 (+ v0 1)) (if (= v0 2) (do (set v3 7) (say v3) (next)) (do)) (set v1 v0) (say (join v1 v3)) (do [v2] (set v2 v1) (say v2)) (set v3 9)))", "1none/1/7/3none/3 end"},
		// A fn that is called several times, and one that calls itself.
		{"(let f (fn (x) (say a) (let a x) (back (* a 2)))) (say (call f 3)) (say (call f 4))", "f a", "(vars v0) (set v0 (fn (x) (vars v1) (say v1) (set v1 x) (back (* v1 2)))) (say (call v0 3)) (say (call v0 4))", "none/6/none/8 end"},
		{"(let f (fn (n) (let a n) (if (< n 3) (run (call f (+ n 1))) (do)) (say a))) (run (call f 1))", "f a", "(vars v0) (set v0 (fn (n) (vars v1) (set v1 n) (if (< n 3) (run (call v0 (+ n 1))) (do)) (say v1))) (run (call v0 1))", "3/2/1 end"},
		{"(let f (fn (n) (do (say a) (let a n) (if (< n 3) (do (let b (call f (+ a 1))) (say (join a b))) (do)) (back a)))) (say (call f 1))", "f a b", "(vars v0) (set v0 (fn (n) (vars v1 v2) (do [v1] (say v1) (set v1 n) (if (< n 3) (do [v2] (set v2 (call v0 (+ v1 1))) (say (join v1 v2))) (do)) (back v1)))) (say (call v0 1))", "none/none/none/23/12/1 end"},
		// One that keeps a Cell of each call; a do that is kept, and in no loop.
		{"(let f (fn (n) (let a n) (back (fn () (set a (+ a 1)) (back a))))) (let g (call f 1)) (let h (call f 5)) (say (call g)) (say (call h)) (say (call g))", "f a g h", "(vars v0 v2 v3) (set v0 (fn (n) (vars v1) (set v1 n) (back (fn () (set v1 (+ v1 1)) (back v1))))) (set v2 (call v0 1)) (set v3 (call v0 5)) (say (call v2)) (say (call v3)) (say (call v2))", "2/6/3 end"},
		{"(let f (fn (n) (do (let a n) (back (fn () (set a (+ a 1)) (back a)))))) (let g (call f 1)) (let h (call f 5)) (say (call g)) (say (call h)) (say (call g))", "f a g h", "(vars v0 v2 v3) (set v0 (fn (n) (vars v1) (do [v1] (set v1 n) (back (fn () (set v1 (+ v1 1)) (back v1)))))) (set v2 (call v0 1)) (set v3 (call v0 5)) (say (call v2)) (say (call v3)) (say (call v2))", "2/6/3 end"},
		{"(let f none) (do (let a 1) (set f (fn () (set a (+ a 1)) (back a)))) (say (call f)) (do (let a 7) (say a)) (say (call f))", "f a a", "(vars v0 v1 v2) (set v0 none) (do [v1] (set v1 1) (set v0 (fn () (set v1 (+ v1 1)) (back v1)))) (say (call v0)) (do [v2] (set v2 7) (say v2)) (say (call v0))", "2/7/3 end"},
		{"(let t (thing)) (let n 0) (while (< n 3) (do (put t n (call (fn (i) (let a i) (back (fn () (back a)))) n)) (set n (+ n 1)))) (say (call (get t 0))) (say (call (get t 2)))", "t n a", "(vars v0 v1) (set v0 (thing)) (set v1 0) (while (< v1 3) (do (put v0 v1 (call (fn (i) (vars v2) (set v2 i) (back (fn () (back v2)))) v1)) (set v1 (+ v1 1)))) (say (call (get v0 0))) (say (call (get v0 2)))", "0/2 end"},
		// A fn in a do in a loop that keeps nothing of it.
		{"(let s 0) (let n 0) (while (< n 3) (do (let a n) (set n (+ a 1)) (set s (call (fn (x) (let b x) (back (+ s b))) a))) ) (say s)", "s n a b", "(vars v0 v1 v2) (set v0 0) (set v1 0) (while (< v1 3) (do [v2] (set v2 v1) (set v1 (+ v2 1)) (set v0 (call (fn (x) (vars v3) (set v3 x) (back (+ v0 v3))) v2)))) (say v0)", "3 end"},
	}
}

// Fresh names' own texts, whoever has them.
func liftFreshCases() []liftCase {
	return []liftCase{
		{"(let v0 1) (say v0)", "v0", "(vars v1) (set v1 1) (say v1)", "1 end"},
		{"(let v1 1) (let a v1) (say a)", "v1 a", "(vars v0 v2) (set v0 1) (set v2 v0) (say v2)", "1 end"},
		{"(vars v0 v2) (set v0 1) (let v1 v0) (let v3 5) (say (join v0 v1 v2 v3))", "v1 v3", "(vars v0 v2 v4 v5) (set v0 1) (set v4 v0) (set v5 5) (say (join v0 v4 v2 v5))", "11none5 end"},
		{"(say (call (fn (v0 v2) (let a v0) (do (let v0 v2) (back (join a v0)))) 3 4))", "a v0", "(say (call (fn (v0 v2) (vars v1 v3) (set v1 v0) (do [v3] (set v3 v2) (back (join v1 v3)))) 3 4))", "34 end"},
		{"(let a 1) (say (call (fn (v0) (back (+ a v0))) 2)) (say (call (fn () (vars v1) (set v1 a) (back v1))))", "a", "(vars v2) (set v2 1) (say (call (fn (v0) (back (+ v2 v0))) 2)) (say (call (fn () (vars v1) (set v1 v2) (back v1))))", "3/1 end"},
		{"(let v 1) (let v00 2) (let v01 3) (let w0 4) (let v10 5) (say (join v v00 v01 w0 v10 'v0'))", "v v00 v01 w0 v10", "(vars v0 v1 v2 v3 v4) (set v0 1) (set v1 2) (set v2 3) (set v3 4) (set v4 5) (say (join v0 v1 v2 v3 v4 'v0'))", "12345v0 end"},
		{"(let a 0) (let b 1) (let c 2) (let d 3) (let e 4) (let f 5) (let g 6) (let h 7) (let i 8) (let j 9) (let k 10) (let l v10) (let v10 11) (say (join k l v10))", "a b c d e f g h i j k l v10",
			"(vars v0 v1 v2 v3 v4 v5 v6 v7 v8 v9 v11 v12 v13) (set v0 0) (set v1 1) (set v2 2) (set v3 3) (set v4 4) (set v5 5) (set v6 6) (set v7 7) (set v8 8) (set v9 9) (set v11 10) (set v12 v13) (set v13 11) (say (join v11 v12 v13))", "10none11 end"},
	}
}

// Where each fault ends the play, and too much at once.
func liftFaultCases() []liftCase {
	one := func(sum string, words string) []liftCase {
		return []liftCase{
			{"(say 1) (let a " + sum + ") (say a)", "a", "(vars v0) (say 1) (set v0 " + sum + ") (say v0)", "1 " + words},
			{"(let n 0) (while 1 (do (let a n) (set n (+ n 1)) (say a) (if (= a 1) (do (let b " + sum + ") (say b)) (do))))", "n a b", "(vars v0 v1 v2) (set v0 0) (while 1 (do [v1] (set v1 v0) (set v0 (+ v0 1)) (say v1) (if (= v1 1) (do [v2] (set v2 " + sum + ") (say v2)) (do))))", "0/1 " + words},
			{"(let f (fn (x) (say x) (let a x) (if a (do (let a " + sum + ") (back a)) (back a)))) (run (call f 0)) (run (call f 1)) (say 2)", "f a a", "(vars v0) (set v0 (fn (x) (vars v1 v2) (say x) (set v1 x) (if v1 (do [v2] (set v2 " + sum + ") (back v2)) (back v1)))) (run (call v0 0)) (run (call v0 1)) (say 2)", "0/1 " + words},
		}
	}
	return slices.Concat(one("(+ 1 none)", "kind"), one(over, "over"), one("(tget (table) (thing))", "key"), one("(call 5)", "kind"), one("(get none 1)", "kind"), one("(& (fn ()) 1)", "kind"), one("(call (fn () (while 1 (do)) (back 1)))", "fuel"), one("(call (fn () (while 1 (run (table))) (back 1)))", "many"), []liftCase{
		{"(let a 1) (say a) (if none (do (let b 1)) (do))", "a b", "(vars v0 v1) (set v0 1) (say v0) (if none (do [v1] (set v1 1)) (do))", "1 kind"},
		{"(let a (thing)) (while a (do (let b 1)))", "a b", "(vars v0 v1) (set v0 (thing)) (while v0 (do [v1] (set v1 1)))", "kind"},
		{"(let a (thing)) (say 1) (say a) (say 2)", "a", "(vars v0) (set v0 (thing)) (say 1) (say v0) (say 2)", "1 kind"},
		{"(let f (fn (n) (let a n) (say a) (run (call f (+ a 1))))) (run (call f 38)) (say 'no')", "f a", "(vars v0) (set v0 (fn (n) (vars v1) (set v1 n) (say v1) (run (call v0 (+ v1 1))))) (run (call v0 38)) (say 'no')", "38/39/40/41/42/43/44/45/46/47/48/49/50/51/52/53/54/55/56/57/58/59/60/61/62/63/64/65/66/67/68/69/70/71/72/73/74/75/76/77 many"},
	})
}

func liftCases() []liftCase {
	return slices.Concat(liftPlaceCases(), liftVarsCases(), liftNameCases(), liftAgainCases(), liftFreshCases(), liftFaultCases())
}

// noLets are pages that are Scoped, without a let and without what bars them.
func noLets() []string {
	return slices.Concat(oldTongue(), []string{})
}

// unliftable are pages that are Scoped, of which Lifted says nothing, with the
// NAMEs of their lets.
func unliftable() []namesCase {
	return []namesCase{
		// Each of these words, with lets and without.
		{"(for i 0 1 (do))", ""}, {"(for i 0 1 (do (let a i) (say a)))", "a"}, {"(let a 1) (for a 0 a (say a))", "a"}, {"(let f (fn () (for i 0 1 (leave))))", "f"}, {"(do (let a 1)) (for i 0 (fn () (let b 2)) (do))", "a b"},
		{"(run (fn ((a 1))))", ""}, {"(let f (fn (a (b a)) (let c b) (back c))) (say (call f 1))", "f c"}, {"(run (fn ((a (fn () (let b 1))))))", "b"}, {"(let a 1) (run (fn (c (b a)) (back b)))", "a"}, {"(let a (fn () (run (fn (x) (run (fn ((y 1))))))))", "a"},
		{"(hidden p)", ""}, {"(hidden)", ""}, {"(let a 1) (hidden)", "a"}, {"(let t (thing)) (hidden p) (hput p t 1) (say (hget p t))", "t"}, {"(let a (fn () (hidden p) (let b 1)))", "a b"}, {"(do (do (hidden)) (let a 1))", "a"},
		{"(take (a) (thing 1))", ""}, {"(take (a b) (thing 1 2)) (let c a) (say (+ b c))", "c"}, {"(let t (thing 1)) (do (take (a) t) (say a))", "t"}, {"(let f (fn (t) (take (a) t) (back a)))", "f"}, {"(take (a) (fn () (let b 1)))", "b"},
		// Several of them, and join beside them.
		{"(hidden p) (take (a) (thing (fn ((b 1))))) (for i 0 1 (do (let c i)))", "c"}, {"(let a (join 1 2)) (for i 0 1 (say a))", "a"}, {"(say (join (fn ((a 1)))))", ""},
		// Captured.
		{"(while 1 (do (let a 1) (run (fn () (back a))) (leave)))", "a"}, {"(while 1 (do (let a (fn () (back a)))))", "a"}, {"(let n 0) (while (< n 1) (do (let a n) (set n (fn () (set a 1)))))", "n a"}, {"(while 1 (do (let a 1) (do (let b a) (run (fn () (back b))) (back 1))))", "a b"}, {"(let b 1) (while 1 (if 1 (do (let c 2) (run (fn () (run (fn () (set c b))))) (leave)) (do)))", "b c"}, {"(run (fn () (while 1 (do (let a 1) (run (fn () (back a)))))))", "a"}, {"(while (fn () (while 1 (do (let a 1) (run (fn () (back a)))))) (leave))", "a"}, {"(while 1 (do (do (let a (fn () (back a))))))", "a"},
		// Captured, and one of those words.
		{"(for i 0 1 (do (let a i) (run (fn () (back a)))))", "a"}, {"(while 1 (do (take (a) 1) (run (fn () (back a)))))", ""},
	}
}
