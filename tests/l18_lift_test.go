package tests

import (
	"fmt"
	"go/ast"
	"go/token"
	"slices"
	"strings"
	"testing"

	"loop.example/g00544/impl"
)

func liftedOf(l []string) liftAnswers { return liftAnswers{impl.LetsIn(l), impl.Lifted(l)} }

func sameLifted(a liftAnswers, b liftAnswers) bool {
	return slices.Equal(a.lets, b.lets) && slices.Equal(a.said, b.said)
}

func showLifted(a liftAnswers) string { return fmt.Sprintf("%q, %s", a.lets, shortPlay(a.said)) }

// checkLifted holds the program against the slow reading, and tells what it says.
func checkLifted(t *testing.T, l []string) liftAnswers {
	t.Helper()
	got := liftedOf(l)
	if want := liftedSlowly(l); !sameLifted(got, want) {
		t.Errorf("%s: %s; read slowly %s", shortPlay(l), showLifted(got), showLifted(want))
	}
	return got
}

func checkNothingLifted(t *testing.T, l []string) {
	t.Helper()
	if got := liftedOf(l); len(got.lets) > 0 || len(got.said) > 0 {
		t.Errorf("%s: %s", shortPlay(l), showLifted(got))
	}
}

func checkLiftedAsItIs(t *testing.T, l []string) {
	t.Helper()
	if got := checkLifted(t, l); len(got.lets) > 0 || !slices.Equal(got.said, l) {
		t.Errorf("%s: %s", shortPlay(l), showLifted(got))
	}
}

func TestLifted(t *testing.T) {
	for _, c := range liftCases() {
		l, again := signsOf(t, c.page), signsOf(t, nonesPage(c.again))
		got := checkLifted(t, l)
		if want := (liftAnswers{strings.Fields(c.lets), again}); !sameLifted(got, want) {
			t.Errorf("%s: %s; want %s", c.page, showLifted(got), showLifted(want))
		}
		for _, said := range [][]string{l, got.said} {
			if words := impl.Words(checkShow(t, said, impl.MaxFuel)); words != c.words {
				t.Errorf("%s says %q; want %q", shortPlay(said), words, c.words)
			}
		}
	}
}

func TestLiftedWhereThereAreNoLets(t *testing.T) {
	checkLiftedAsItIs(t, nil)
	checkLiftedAsItIs(t, []string{})
	for _, page := range noLets() {
		checkLiftedAsItIs(t, signsOf(t, page))
	}
}

func TestLiftedSaysNothing(t *testing.T) {
	for _, c := range unliftable() {
		l := signsOf(t, c.page)
		if got, want := checkLifted(t, l), (liftAnswers{strings.Fields(c.want), nil}); !impl.Scoped(l) || !sameLifted(got, want) {
			t.Errorf("%s: %s; want %s", c.page, showLifted(got), showLifted(want))
		}
	}
	for _, c := range wrapCases() {
		if l := signsOf(t, c.page); c.captured() && len(checkLifted(t, l).said) > 0 {
			t.Errorf("%s: %s", c.page, shortPlay(impl.Lifted(l)))
		}
	}
}

// Each new word, in each surrounding.
func TestLiftedOfEachNewWord(t *testing.T) {
	for _, a := range arounds() {
		for _, deed := range newDeeds() {
			for _, more := range []string{"", "(let z 1) ", "(vars y) (let z 1) "} {
				page, isNew := deed.alone()
				l := signsOf(t, more+a.with(page))
				words := strings.Fields(a.adds + " " + isNew)
				got := checkLifted(t, l)
				switch isScoped := impl.Scoped(l); {
				case !isScoped:
					t.Errorf("%s: the test itself is wrong", shortPlay(l))
				case slices.ContainsFunc(words, isBarred):
					if len(got.said) > 0 {
						t.Errorf("%s: %s", shortPlay(l), showLifted(got))
					}
				case !slices.Contains(words, "let") && more == "":
					checkLiftedAsItIs(t, l)
				case len(got.said) == 0 || slices.Contains(got.said, "let"):
					t.Errorf("%s: %s", shortPlay(l), showLifted(got))
				}
			}
		}
	}
}

func TestLetsIn(t *testing.T) {
	for _, c := range []namesCase{
		{"", ""}, {"(say 1)", ""}, {"(say 'let')", ""}, {"(vars a b)", ""}, {"(vars let0) (set let0 1)", ""}, {"(take (a b) 1)", ""}, {"(hidden a)", ""}, {"(for i 0 1 (do))", ""}, {"(run (fn (a (b 1))))", ""},
		// Beside each other.
		{"(let a 1)", "a"}, {"(say 1) (let a 1) (say a)", "a"}, {"(let b 1) (let a 1) (let c 1)", "b a c"}, {"(vars d) (let b 1) (set d b) (let a 1)", "b a"}, {"(let abcdefgh 1) (let v0 2) (let a9 3)", "abcdefgh v0 a9"},
		// Within each other, in dos and fns.
		{"(let a (fn () (let b 1))) (let c 1)", "a b c"}, {"(let c (fn () (let b (fn () (let a 1))) (let d 2)))", "c b a d"}, {"(do (let a 1)) (let b 1) (do (do (let c 1) (let d 1)))", "a b c d"}, {"(if 1 (do (let a 1)) (do (let b 1)))", "a b"}, {"(while (fn () (let a 1)) (do (let b 1)))", "a b"}, {"(do (let d (call (fn (x) (do (let c x)) (while 1 (do (let b (fn () (let a 1))))))))) (let e 1)", "d c b a e"}, {"(run (thing (fn () (let a 1)) (get (fn () (let b 1)) (fn () (let c 1)))))", "a b c"},
		// One NAME more than once.
		{"(let a 1) (do (let a 1) (do (let a 1)) (do (let a 1)))", "a a a a"}, {"(let a (fn (a) (let a 1))) (let b 1) (run (fn () (let b 2)))", "a a b b"}, {"(do (let a 1)) (do (let b 1)) (do (let a 1))", "a b a"}, {"(vars a) (do (let a 1))", "a"},
		// Beside what is said again ahead of it, and where Lifted says nothing.
		{"(for i 0 1 (do (let a i)))", "a"}, {"(for i (fn () (let a 1)) (fn () (let b 1)) (do (let c 1)))", "a b c"}, {"(run (fn ((x (fn () (let a 1)))) (let b 1)))", "a b"}, {"(take (c) (fn () (let a 1))) (hidden p) (hput p (fn () (let b 1)) 1) (run (hget p (fn () (let d 1))))", "a b d"}, {"(while 1 (do (let a (fn () (back a)))))", "a"}, {"(say (join (fn () (let b 1)) (fn () (let a 1))))", "b a"},
		// Where it is not Scoped, whatever lets are in it.
		{"(say q)", ""}, {"(let a 1) (say q)", ""}, {"(let a b)", ""}, {"(let a 1) (let a 2)", ""}, {"(do (let a 1)) (say a)", ""}, {"(vars a) (let a 1)", ""}, {"(let a 1) (vars b)", ""}, {"(let a 1) (leave)", ""}, {"(let a (fn (b b)))", ""}, {"(let a (hget a 1))", ""}, {"(hidden a a) (let b 1)", ""}, {"(do (vars a) (let b 1))", ""}, {"(let a 1) (take (b b) 1)", ""}, {"(run (fn ((x 1)) (vars y) (let z 1)))", ""}, {"(while 1 (do (let a (fn () (next)))))", ""},
		// What is no play.
		{"let", ""}, {"(let)", ""}, {"(let a)", ""}, {"(let a 1", ""}, {"(let a 1))", ""}, {"(let a 1 2)", ""}, {"(let 1 a)", ""}, {"(let (a) 1)", ""}, {"(let let 1)", ""}, {"(let none 1)", ""}, {"(let 'a' 1)", ""}, {"(let a (do))", ""}, {"(let a (let b 1))", ""}, {"(let a 1) 5", ""}, {"(say (let a 1))", ""}, {"(if 1 (let a 1) (do))", ""}, {"(while 1 (let a 1))", ""}, {"(for i 0 1 (let a 1))", ""}, {"((let a 1))", ""}, {"(", ""}, {")", ""}, {"5", ""},
	} {
		l := signsOf(t, c.page)
		if got := checkLifted(t, l).lets; !slices.Equal(got, strings.Fields(c.want)) {
			t.Errorf("%s: %q; want %q", c.page, got, c.want)
		}
	}
}

// Of each thing that Scoped asks for, that one alone broken, beside and within
// lets.
func TestLiftedOfWhatIsNotScoped(t *testing.T) {
	for _, broken := range slices.Concat(brokenPages(), []string{
		"(let x z)", "(do (let x 1)) (say x)", "(run (fn () (let x 1))) (set x 2)", "(do (let x 1) (let y 2) (let x 3))", "(run (fn () (let x 1) (let x 1)))", "(run (fn (y) (vars x) (let x y)))", "(let x (fn () (leave)))", "(let x (fn (y y) (back x)))", "(do (let x 1) (vars y))", "(let x 1) (vars y)", "(let x (hget x 1))", "(let x 1) (hput x 1 2)", "(let x 1) (next)", "(while 1 (do (let x (fn () (next)))))",
	}) {
		for _, around := range []string{
			"BROKEN", "(let b 1) BROKEN", "BROKEN (let b 1) (do (let c b))", "(do (let b 1) BROKEN (do (let c b) (say c)))", "(run (fn () (let b 1) BROKEN))", "(let b (fn () BROKEN))", "(do (let b (fn (c) (do (let d c) BROKEN))))", "(while 1 (do (let b 1) (run (fn () BROKEN))))",
		} {
			l := signsOf(t, strings.ReplaceAll(around, "BROKEN", broken))
			if !impl.PlayOk(l) || impl.Scoped(l) {
				t.Errorf("%s: the test itself is wrong", shortPlay(l))
			}
			checkNothingLifted(t, l)
			checkLifted(t, l)
		}
	}
}

func TestLiftedOfWhatIsNoPlay(t *testing.T) {
	play := signsOf(t, "(vars a) (let b 1) (do (let c b) (run (fn (d) (let e d) (while 1 (do (let f e) (leave))) (back c))))")
	for _, page := range []string{
		"a", "5", "'a'", "none", "+", "(", ")", "( )", "let", "(+ 1 2)", "(let)", "(let a)", "(let 1)", "(let a 1 2)", "(let 5 1)", "(let 'a' 1)", "(let none 1)", "(let let 1)", "(let (a) 1)", "(let a (1))", "(let a ())", "(let a (do))", "(let a (let b 1))", "(let a 1", "(let a 1))", "(let a", "(let", "(do (let a 1)", "(do let a 1)", "(if 1 (let a 1) (do))", "(if 1 (do) (let a 1))", "(while 1 (let a 1))", "(for i 0 1 (let a 1))", "(if (let a 1) (do) (do))", "(while (let a 1) (do))", "(say (let a 1))", "(run (call (let a 1)))", "(run (fn (let) (do)))", "(run (fn ((let 1))))", "(run (fn let))", "(set let 1)", "(take (let) 1)", "(hidden let)", "(vars let)", "(vars (a))", "(vars 5)", "(run let)", "(run (hget let 1))",
		")(", "((let a 1))", "((do))", "(say 1) 5", "(let a 1) a",
	} {
		l := signsOf(t, page)
		for _, list := range [][]string{l, slices.Concat(play, l), slices.Concat(l, play), slices.Concat([]string{"(", "do"}, play, l, []string{")"}), slices.Concat([]string{"(", "run", "(", "fn", "(", ")", "(", "let", "z", "1", ")"}, l, []string{")", ")"})} {
			checkNothingLifted(t, list)
		}
	}
	for _, bad := range wrongSigns() {
		for _, list := range [][]string{{bad}, slices.Concat(play, []string{bad}), slices.Concat([]string{bad}, play), signsWith("(let X 1)", bad), signsWith("(let a X)", bad), signsWith("(X a 1)", bad), signsWith("(let a 1) X", bad), signsWith("(vars X) (let a 1)", bad), signsWith("(do (let a (X () (back a))))", bad), signsWith("(do (let a (fn (X) (back a))))", bad), signsWith("(let a 1) (do (say X))", bad), signsWith("(let a 1) (X (let b 1))", bad)} {
			checkNothingLifted(t, list)
		}
	}
	for _, l := range itemLists(t) {
		if len(l) > 0 && !impl.PlayOk(l) {
			checkNothingLifted(t, l)
		}
	}
	for _, n := range []int{impl.MaxSigns, 100000} {
		for _, l := range [][]string{within(n, "(", "let", ")"), within(n, "( do", "( let a 1 )", ")"), within(n, "( let a", "", ""), within(n, "( let a ( fn ( )", "", ") )"), within(n, "( do ( let a 1 )", "", ")"), within(n, ")", "", "("), slices.Repeat([]string{"let"}, n), slices.Repeat([]string{"(", "let"}, n), slices.Repeat([]string{"(", "let", "a", "1", ")"}, n), slices.Repeat([]string{"(", "do", "(", "let", "a", "1", ")", ")"}, n), slices.Repeat(play, n)} {
			checkNothingLifted(t, l)
		}
	}
}

// Another sign at each place: other names, and words that make another form.
func TestLiftedWithOneSignChanged(t *testing.T) {
	t.Parallel()
	scoped, lets := 0, 0
	for n, c := range liftCases() {
		l := signsOf(t, c.page)
		for at := range l {
			for m, other := range []string{"a", "b", "f", "n", "v0", "v1", "1", "let", "vars", "do", "fn", "run", "A"} {
				if (n+at+m)%2 != 0 {
					continue
				}
				changed := slices.Clone(l)
				changed[at] = other
				if got := checkLifted(t, changed); len(got.said) > 0 {
					scoped++
					lets += len(got.lets)
				}
			}
			if (n+at)%3 == 0 {
				checkLifted(t, slices.Delete(slices.Clone(l), at, at+1))
			}
		}
		if t.Failed() {
			return
		}
	}
	if scoped < 1500 || lets < 4500 {
		t.Errorf("only %d were said again, with %d lets", scoped, lets)
	}
}

// F of each let, in the order in which they begin: those of FreshMany, whoever has
// some of them already.
func TestLiftedTakesTheFirstFreshNames(t *testing.T) {
	pages := []string{
		"(let x0 OWN) (do (let x1 OWN) (do (let x2 x1)) (let x3 x2))", "(let x0 (fn (OWN) (let x1 OWN) (do (let x2 (fn () (let x3 x2)))))) (let x4 OWN)", "(do (run (fn () (let x0 OWN))) (let x1 1)) (if OWN (do (let x2 x2)) (do (let x3 (fn () (let OWN 1) (set OWN 2)))))",
	}
	for _, page := range pages {
		for bits := range 1 << 6 {
			var own []string
			for n := range 6 {
				if bits>>n&1 == 1 {
					own = append(own, vNumber(int64(n)))
				}
			}
			own = append(own, "v13", "v00", "w0")
			l := signsOf(t, "(vars "+strings.Join(own, " ")+" x2 x3) "+strings.ReplaceAll(page, "OWN", own[bits%len(own)]))
			got := checkLifted(t, l)
			want := impl.FreshMany(l, int64(len(got.lets)))
			var is []string
			for at, sign := range l {
				// What is added changes how many signs there are, but not which set is
				// the next one of a let.
				if sign == "let" {
					is = append(is, setOf(got.said, countOf(l[:at], "let", "set")))
				}
			}
			if !slices.Equal(is, want) || !slices.Equal(want, freshManySlowly(l, int64(len(got.lets)))) || len(is) < 4 {
				t.Fatalf("%s: %q; want %q", shortPlay(l), is, want)
			}
		}
	}
}

func countOf(l []string, signs ...string) int {
	count := 0
	for _, sign := range l {
		if slices.Contains(signs, sign) {
			count++
		}
	}
	return count
}

// setOf is who is set by that one of the sets that were lets or sets of the play.
func setOf(lifted []string, which int) string {
	for at, sign := range lifted {
		if sign != "set" || lifted[at+2] == "none" {
			continue
		}
		if which == 0 {
			return lifted[at+1]
		}
		which--
	}
	return ""
}

// What is lifted is as deep as it was: a let is as deep as what is added for it.
func TestLiftedAtMaxDepth(t *testing.T) {
	t.Parallel()
	for _, d := range []depthOfGiven{
		{"DEEP", 0, 0, false}, {"(let a 1) DEEP", 0, 0, false}, {"DEEP (let a 1)", 0, 0, false}, {"(do (let a 1) DEEP)", 1, 1, false}, {"(do DEEP (do (let a 1)))", 1, 1, false}, {"(let a (fn () DEEP))", 2, 2, false}, {"(let a (fn () (let b 1) DEEP))", 2, 2, false}, {"(while 1 (do (let a 1) (if a DEEP (do))))", 3, 3, false}, {"(vars b) (let a (fn () (vars c) (do (let d 1) DEEP)))", 3, 3, false},
		{"(let a DEEP)", 1, 1, true}, {"(do (let a DEEP))", 2, 2, true}, {"(do (let a 1) (do (let b DEEP)))", 3, 3, true}, {"(let a (call (fn () (let b DEEP) (back b))))", 4, 4, true}, {"(let a 1) (say DEEP)", 1, 1, true},
	} {
		for deep := 54; deep <= impl.MaxDepth+2; deep++ {
			got, isPlay := checkLifted(t, d.with(t, deep)), d.before+deep <= impl.MaxDepth
			if (len(got.said) > 0) != isPlay || !isPlay && len(got.lets) > 0 {
				t.Errorf("%s, %d deep: %s", d.page, deep, showLifted(got))
			}
		}
	}
	// A let that is itself what is deepest.
	for _, c := range []struct {
		inside string
		lets   int
		isPlay int
	}{
		{"( let a 1 )", 1, 59}, {"( do ( let a 1 ) )", 1, 58}, {"( let a ( + 1 2 ) )", 1, 58}, {"( run ( fn ( ) ( let a 1 ) ) )", 1, 57}, {"( run ( fn ( ) ) ) ( let a 1 )", 1, 57}, {"( let a 1 ) ( do ( let a 1 ) ( do ( let a 1 ) ) )", 3, 57}, {"( say 1 )", 0, 59},
	} {
		for dos := range 62 {
			got, isPlay := checkLifted(t, within(dos, "( do", c.inside, ")")), dos <= c.isPlay
			if (len(got.said) > 0) != isPlay || isPlay && len(got.lets) != c.lets || !isPlay && len(got.lets) > 0 {
				t.Errorf("%s in %d dos: %s", c.inside, dos, showLifted(got))
			}
		}
	}
	for n := range 20 {
		l := within(n, "( let f ( fn ( )", "( let g 1 )", ") )")
		if got, isPlay := checkLifted(t, l), 2*n+1 <= impl.MaxDepth; (len(got.said) > 0) != isPlay || len(got.lets) != n+1 {
			t.Errorf("%d within each other: %s", n, showLifted(got))
		}
	}
}

// A let has one sign more, in a do five more than that, and a vars three that was
// not there.
const (
	signsOfLift = 1
	signsOfNone = 5
	signsOfVars = 3
)

func TestLiftedAtMaxSigns(t *testing.T) {
	for _, c := range []struct {
		page              string
		lets, nones, vars int
	}{
		{"FILL", 0, 0, 0}, {"(run (fn (x) FILL))", 0, 0, 0}, {"(let a 1) FILL", 1, 0, 1}, {"FILL (let a 1)", 1, 0, 1}, {"(vars b) (let a 1) FILL", 1, 0, 0}, {"(vars) FILL (let a 1)", 1, 0, 0}, {"(let a (fn () FILL))", 1, 0, 1}, {"(do (let a 1) FILL)", 1, 1, 1}, {"(vars b) (do (let a 1) (let c 2) FILL)", 2, 2, 0}, {"(do FILL (do (let a 1)))", 1, 1, 1}, {"(do (let a 1) (do (let b 1) FILL) (let c 1))", 3, 3, 1}, {"(run (fn () FILL (let a 1)))", 1, 0, 1}, {"(let a (fn () (let b 1) FILL)) (let c 1)", 3, 0, 2}, {"(let a (fn () (vars d) (do (let b 1) FILL))) (let c 1)", 3, 1, 1}, {"(run (fn () (do (let a (fn (x) (do (let b x)))) FILL)))", 2, 2, 2}, {"(while 1 (if 1 (do (let a 1) (leave)) (do (let a 2) FILL (back a))))", 2, 2, 1},
	} {
		more := signsOfLift*c.lets + signsOfNone*c.nones + signsOfVars*c.vars
		for _, signs := range []int{150, impl.MaxSigns - more - 1, impl.MaxSigns - more, impl.MaxSigns - more + 1, impl.MaxSigns - 1, impl.MaxSigns, impl.MaxSigns + 1} {
			l := filledUp(c.page, signs)
			isPlay, saysIt := signs <= impl.MaxSigns, signs+more <= impl.MaxSigns
			got := liftedOf(l)
			if len(l) != signs || isPlay && len(got.lets) != c.lets || !isPlay && len(got.lets) > 0 || saysIt && len(got.said) != signs+more || !saysIt && len(got.said) > 0 {
				t.Errorf("%s with %d signs: %q, %d signs", c.page, len(l), got.lets, len(got.said))
			}
			if c.lets == 0 && saysIt && !slices.Equal(got.said, l) {
				t.Errorf("%s with %d signs is not as it is", c.page, len(l))
			}
			if saysIt {
				checkLifted(t, l)
			}
		}
	}
}

// As many as there may be: lets beside each other, each in a do of its own, and
// within each other; more than FreshMany tells, too.
func TestLiftedOfMany(t *testing.T) {
	for _, one := range []struct {
		let, again string
		isOnce     bool
	}{
		{"(let NAME 1)", "(set F 1)", true}, {"(do (let NAME 1))", "(do (set F none) (set F 1))", false}, {"(run (fn () (let NAME 1)))", "(run (fn () (vars F) (set F 1)))", false},
	} {
		hasVars, said := !strings.Contains(one.let, "fn"), 0
		for n := range 405 {
			var page, again, names, fresh []string
			for at := range n {
				name, f := "a", vNumber(int64(at))
				if one.isOnce {
					name = fmt.Sprintf("a%d", at)
				}
				page, again = append(page, strings.ReplaceAll(one.let, "NAME", name)), append(again, strings.ReplaceAll(one.again, "F", f))
				names, fresh = append(names, name), append(fresh, f)
			}
			l, want := wordsOf(strings.Join(page, " ")), liftAnswers{}
			if hasVars && n > 0 {
				again = append([]string{"(vars " + strings.Join(fresh, " ") + ")"}, again...)
			}
			if len(l) <= impl.MaxSigns {
				want.lets = names
			}
			if signs := wordsOf(strings.Join(again, " ")); len(signs) <= impl.MaxSigns {
				want.said = signs
				said++
			}
			if got := liftedOf(l); !sameLifted(got, want) {
				t.Fatalf("%d of %s: %d, %d signs; want %d, %d signs", n, one.let, len(got.lets), len(got.said), len(want.lets), len(want.said))
			}
		}
		if said < 110 || one.isOnce && said < 330 {
			t.Errorf("only %d of %s are said again", said, one.let)
		}
	}
	said := 0
	for n := range 60 {
		for _, page := range []string{
			"( do ( let k 1 )|( say k )|( say k ) )", "( do|( say k )|( set k 2 ) ( let k k ) )", "( let k ( fn ( )|( say k )|( set k 1 ) ) )", "( run ( fn ( k ) ( let k 1 )|( back k )|( say k ) ) )", "( while k ( do ( let k 1 ) ( let j k )|( leave )|( set j 1 ) ) )", "( run ( fn ( j ) ( vars k )|( say k )|( do ( let j k ) ( say j ) ) ) )", "( if k|( say k )|( do ( let k 1 ) ( say k ) ) )",
		} {
			parts := strings.Split(page, "|")
			l := slices.Concat([]string{"(", "let", "k", "1", ")", "(", "while", "1", "(", "do"}, within(n, parts[0], parts[1], parts[2]), []string{")", ")"})
			if got := checkLifted(t, l); len(got.said) > 0 {
				said++
			}
		}
	}
	if said < 150 {
		t.Errorf("only %d of those within each other are said again", said)
	}
}

// ownDoLets is how many lets stand right in a do.
func ownDoLets(n tree) int64 {
	count := int64(0)
	for _, inner := range n.within {
		if n.head() == "do" && inner.head() == "let" {
			count++
		}
		count += ownDoLets(inner)
	}
	return count
}

// checkNoLets asks that there are no lets in what Lifted says, which it tells, and
// that nothing else of it is other than the chapter tells.
func checkNoLets(t *testing.T, l []string) []string {
	t.Helper()
	lifted, lets := impl.Lifted(l), int64(len(impl.LetsIn(l)))
	if !impl.Scoped(l) || !impl.Scoped(lifted) || len(lifted) == 0 && len(l) > 0 || len(impl.LetsIn(lifted)) > 0 || slices.Contains(lifted, "let") || (lets == 0) != slices.Equal(lifted, l) || !slices.Equal(impl.Lifted(lifted), lifted) {
		t.Fatalf("%s: %s", shortPlay(l), shortPlay(lifted))
	}
	more := func(head string) int64 { return impl.Count(lifted, head) - impl.Count(l, head) }
	nones, vars := ownDoLets(playTree(l)), more("vars")
	if more("let") != -lets || more("set") != lets+nones || int64(len(lifted)-len(l)) != signsOfLift*lets+signsOfNone*nones+signsOfVars*vars {
		t.Fatalf("%s: %s", shortPlay(l), shortPlay(lifted))
	}
	for _, head := range []string{"do", "fn", "if", "while", "say", "back", "leave", "next", "run", "call", "join"} {
		if more(head) != 0 {
			t.Fatalf("%s: %s", shortPlay(l), shortPlay(lifted))
		}
	}
	wasNew := slices.DeleteFunc(impl.NewIn(l), func(word string) bool { return word == "let" })
	if isNew := impl.NewIn(lifted); !slices.Equal(isNew, wasNew) || impl.OldOk(lifted) != (len(wasNew) == 0) {
		t.Fatalf("%s: %q are new; want %q", shortPlay(lifted), isNew, wasNew)
	}
	return lifted
}

// checkPromiseEighteen asks that Lifted says the same, and that there are no lets
// any more; it tells with which Fault the play ends, with MaxFuel.
func checkPromiseEighteen(t *testing.T, l []string) int64 {
	t.Helper()
	lifted := checkNoLets(t, l)
	first, second := impl.Played(l, impl.MaxFuel), impl.Played(lifted, impl.MaxFuel)
	checkSaysTheSame(t, l, lifted, fuelsFor(first, second)...)
	// It has more Steps, and other Cells at other times, so that there may be no room
	// or no fuel in the one where there is some in the other.
	if impl.Ended(first) && impl.Ended(second) && !(first.Fault == second.Fault && slices.Equal(first.Said, second.Said)) || first.Fault == impl.FtFuel && impl.Ended(second) {
		t.Fatalf("%s: %s; said again %s", shortPlay(l), showShow(first), showShow(second))
	}
	return first.Fault
}

// Promise 18: Lifted says the same, and there are no lets any more.
func TestLiftedSaysTheSame(t *testing.T) {
	for _, c := range liftCases() {
		l := signsOf(t, c.page)
		checkPromiseEighteen(t, l)
		// With each fuel, by both players.
		lifted := impl.Lifted(l)
		slow, slowLifted := slowPlayOf(l), slowPlayOf(lifted)
		for fuel := range min(impl.Played(lifted, impl.MaxFuel).Steps, 200) + 3 {
			a, b := impl.Played(l, fuel), impl.Played(lifted, fuel)
			if !impl.Alike(a, b) || !alikeSlowly(slow.played(fuel), slowLifted.played(fuel)) {
				t.Fatalf("%s with fuel %d: %s; said again %s", c.page, fuel, showShow(a), showShow(b))
			}
		}
	}
	for _, page := range noLets() {
		checkPromiseEighteen(t, signsOf(t, page))
	}
}

// A letter puts deeds of a play, each third one, into a do that has lets, by one
// NAME after the other.
type letter struct{ count int }

var letterTrees = formTrees([]string{
	"(do (let NAME 1) DEED)",
	"(do (say (= NAME none)) (let NAME 1) (do (let zx NAME) DEED (say zx)))",
	"(do (let zf (fn (zx) (let NAME zx) (do (let zx NAME) (back zx)))) DEED (say (call zf 2)))",
	"(do (let zn 0) (while (< zn 2) (do (set zn (+ zn 1)) (say (= NAME none)) (let NAME zn) DEED)))",
	"(if 1 (do (let zx 1) (let NAME 2) DEED) (do (let NAME 3)))",
})

func (c *letter) all(list []tree) []tree {
	var out []tree
	for _, n := range list {
		out = append(out, c.one(n))
	}
	return out
}

func (c *letter) one(n tree) tree {
	inner := tree{n.sign, n.isList, c.all(n.within)}
	if !isRuled(n) {
		return inner
	}
	c.count++
	if c.count%3 != 0 {
		return inner
	}
	names := []string{"zk", "n0", "v0", "t1", "v2", "f0", "n1"}
	name := tree{sign: names[c.count/3%len(names)]}
	return filling{"NAME": {name}, "DEED": {inner}}.fill(letterTrees[c.count/3%len(letterTrees)])[0]
}

func manyLets(l []string) []string {
	c := &letter{}
	return signsOfTrees(c.all(blockOf(playTree(l))))
}

// wrappedAhead is what the ways to say it again that come ahead of it make of a
// play; nothing where one of them says nothing.
func wrappedAhead(l []string) []string { return impl.Wrapped(turnedAhead(l)) }

func TestLiftedOfMadePlaysSaysTheSame(t *testing.T) {
	t.Parallel()
	ends, lifted, lets, crowded := map[int64]int{}, 0, 0, 0
	check := func(n int, l []string) bool {
		if len(l) == 0 || len(impl.Lifted(l)) == 0 {
			checkLifted(t, l)
			return false
		}
		ends[checkPromiseEighteen(t, l)]++
		lifted++
		lets += len(impl.LetsIn(l))
		if n%4 == 0 {
			checkLifted(t, l)
		}
		return true
	}
	for n, l := range playsToAsk(t, 150) {
		many := manyLets(l)
		check(n, l)
		for _, ahead := range [][]string{wrappedAhead(l), wrappedAhead(many), impl.Unjoined(l)} {
			// By few names, and by those that would be fresh.
			if check(n, ahead) && n%2 == 0 {
				a := alphaOf(ahead)
				check(n, a.called(func(n int) string { return vNumber(int64(n * 2)) }))
				if check(n, a.crowded()) {
					crowded++
				}
			}
		}
	}
	for fault := range int64(6) {
		if ends[fault] < 2 {
			t.Errorf("only %d of %d end with %d", ends[fault], lifted, fault)
		}
	}
	if lifted < 600 || lets < 6000 || crowded < 200 {
		t.Errorf("only %d are said again, with %d lets, %d by few names", lifted, lets, crowded)
	}
}

// A liftTally is how many were asked, and how they ended.
type liftTally struct {
	asked int
	ends  map[int64]int
}

// ask is for plays that end: both say the same with some fuel and with MaxFuel, and
// each so many of them are read slowly, too.
func (c *liftTally) ask(t *testing.T, page string, each int) {
	t.Helper()
	l := signsOf(t, page)
	lifted := checkNoLets(t, l)
	if c.asked++; c.asked%each == 0 {
		checkLifted(t, l)
	}
	checkSaysTheSame(t, l, lifted, 0, 1, 25, 60, 150)
	c.ends[checkBothEnd(t, l, lifted)]++
}

// x, declared in each way, used in each way ahead of it and behind it, with each
// thing in between.
func TestLiftedOfEachUse(t *testing.T) {
	t.Parallel()
	declared := []string{"", "(let x 2)", "(let w 7) (let x (+ w 1)) (let y 8)", "(let x x)", "(let x (fn () (back 4))) (set x (call x))", "(let y 3)"}
	uses := []string{
		"(say x)", "(set x 6)", "(say (= x none))", "(set x (join 'u' x))", "(say (call (fn () (back x))))", "(run (call (fn () (set x 6))))", "(say (call (fn (x) (back x)) 9))", "(say (call (fn (x) (let x 5) (back x)) 9))", "(say (call (fn () (vars x) (set x 4) (back x))))", "(say (call (fn () (vars y) (let x 4) (set y x) (back y))))", "(say (call (fn () (do (let x 4) (say x)) (back x))))", "(do (let x 4) (say x))", "(do (say x) (let x 4))", "(if (= x none) (set x 3) (do (let x 1) (say x)))", "(set g (fn () (back x)))", "(while (= x none) (do (set x 5) (do (let x 1) (say x))))", "(put t 0 x)", "(tput m t x)", "(back x)", "(say (+ x none))",
	}
	between := []string{"HERE", "(do HERE)", "(do (let y 1) HERE (say y))", "(do HERE (let x 8) (say x))", "(do (let x 8) HERE)", "(if 1 (do HERE) (say 'e'))", "(run (call (fn () HERE)))", "(run (call (fn (x) HERE (back x)) 9))", "(run (call (fn () (vars x) HERE)))", "(run (call (fn () (let x 8) HERE)))", "(do (do HERE)) (do (let x 5) (say x))"}
	c := &liftTally{ends: map[int64]int{}}
	for n, first := range declared {
		for m, use := range uses {
			for k, around := range between {
				inside, block := strings.ReplaceAll(around, "HERE", use), "(do AHEAD FIRST BEHIND (say (join x)))"
				if (n+m+k)%2 == 0 {
					block = "(say (call (fn (x) AHEAD FIRST BEHIND (back (join x)))))"
				}
				page := strings.NewReplacer("AHEAD", inside, "FIRST", first, "BEHIND", inside).Replace(block)
				if (n+m+k)%3 == 0 {
					page = strings.NewReplacer("AHEAD", "", "FIRST", first, "BEHIND", inside).Replace(block)
				}
				c.ask(t, "(let x 5) (let g none) (let m (table)) (let t (thing)) (tput m t 0) "+page+" (if (= g none) (do) (say (call g))) (say x) (say (get t 0)) (say (tget m t))", 3)
			}
		}
	}
	if c.asked < 1300 || c.ends[impl.FtNone] < 1200 || c.ends[impl.FtKind] < 60 {
		t.Errorf("%+v", c)
	}
}

// A do with lets of its own that is done more than once, left in each way; what it
// had the last time is not there any more.
func TestLiftedOfEachWayOut(t *testing.T) {
	t.Parallel()
	ways := []string{
		"(do)", "(leave)", "(next)", "(back i)", "(if (= i 1) (leave) (do))", "(if (= i 1) (next) (do))", "(if (= i 2) (back (join 'b' i)) (do))", "(do (let z i) (if (= z 2) (leave) (next)))", "(while 1 (do (say z) (let z i) (leave)))", "(while 1 (back i))", "(set x 9)", "(say (call (fn () (let z i) (while 1 (do (let y z) (back y))))))", "(run (call (fn () (while 1 (if i (back 1) (leave))))))", "(if (= i 1) (do (set x 7) (set y 7) (next)) (do))", "(if (= i 2) (say (+ i none)) (do))", "(if (= i 1) (say " + over + ") (do))", "(if (= i 3) (say (tget (table) (thing))) (do))",
	}
	dos := []string{
		"(do (say x) (let x i) WAY (say x))", "(do WAY (say x) (let x i) (let y (join x 'y')) (say y))", "(do (say (join x y)) (let x i) WAY (let y 5) (say (join x y)))", "(do (let x i) (do (say y) (let y x) WAY (say y)) (say x))", "(do (if (= i 1) (set y 4) (do)) (say y) (let x i) (let y (+ x 1)) (do WAY) (say x))", "(do (let x i) (while (< x 3) (do (say y) (set x (+ x 1)) (let y x) WAY (say y))) (say x))", "(do (say y) (let x (fn (n) (let y n) (do (say z) (let z y) (back z)))) (let y (call x i)) WAY (say y) (do (let z 1)))",
	}
	loops := []string{
		"(while (< i 3) (do (set i (+ i 1)) HERE))", "(while (< i 4) (do (set i (+ i 1)) (if (= i 2) (say 'e') HERE)))", "(while (< o 2) (do (let x o) (set o (+ o 1)) (set i 0) (while (< i 3) (do (set i (+ i 1)) HERE)) (say x)))", "(while (< i 3) (do (let y 8) (set i (+ i 1)) (do (do HERE)) (say y)))",
	}
	arounds := []string{"HERE", "(say (= none (call (fn () HERE (back 'e')))))", "(let e (fn (n) (do (set i 0) HERE) (say n))) (run (call e 1)) (run (call e 2))", "(say (call (fn (x) (vars y) (set y 1) HERE (back (join x y))) 3))"}
	c := &liftTally{ends: map[int64]int{}}
	for n, loop := range loops {
		for m, do := range dos {
			for k, way := range ways {
				inside := strings.ReplaceAll(loop, "HERE", strings.ReplaceAll(do, "WAY", way))
				for a := range 2 {
					around := arounds[(n+m+k+a)%len(arounds)]
					c.ask(t, "(let i 0) (let o 0) (let x 'x') (let y 'y') (let z 'z') "+strings.ReplaceAll(around, "HERE", inside)+" (say (join i o x y z))", 5)
				}
			}
		}
	}
	if c.asked < 900 || c.ends[impl.FtNone] < 500 || c.ends[impl.FtKind] < 20 || c.ends[impl.FtOver] < 20 || c.ends[impl.FtKey] < 10 {
		t.Errorf("%+v", c)
	}
}

// A fn that has lets, in each place where a sum may stand, and what each way to say
// it again that comes ahead makes of that.
func TestLiftedInEachPlace(t *testing.T) {
	sums := []string{
		"(call (fn () (let a 'ab') (back a)))", "(call (fn (a) (let b a) (do (let a 2) (set b a)) (back b)) 1)", "(fn () (let a 1) (back a))", "(call (fn () (vars a) (let b 2) (set a b) (back a)))", "(call (fn () (let f (fn (n) (let a n) (back (+ a 1)))) (back (call f 1))))", "(call (fn () (while 1 (do (let a 'ab') (back a)))))", "(call (fn () (let a (+ 1 none)) (back a)))",
	}
	ends, asked := map[int64]int{}, 0
	for _, place := range joinPlaces() {
		for _, sum := range sums {
			l := signsOf(t, strings.ReplaceAll(place.page, "HERE", sum))
			if len(impl.LetsIn(l)) == 0 {
				t.Fatalf("%s: the test itself is wrong", shortPlay(l))
			}
			checkLifted(t, l)
			if slices.ContainsFunc(impl.NewIn(l), isBarred) {
				l = wrappedAhead(l)
				checkLifted(t, l)
			}
			asked++
			ends[checkPromiseEighteen(t, l)]++
		}
	}
	if asked < 500 || ends[impl.FtNone] < 200 || ends[impl.FtKind] < 100 {
		t.Errorf("%d were asked: %v", asked, ends)
	}
}

// Whatever stands within whatever stands within whatever.
func TestLiftedWithinOneAnother(t *testing.T) {
	t.Parallel()
	arounds := []string{
		"(do (let a b) HERE)", "(do HERE (let a 7) (say a))", "(while (< a 3) (do (set a (+ a 1)) HERE))", "(do (let n 0) (while (< n 2) (do (say b) (set n (+ n 1)) (let b n) HERE (say b))))", "(if b (do (let b 'i') HERE) (say 'e'))", "(say (call (fn (b) HERE (let a 2) (back a)) 2))", "(do (let f (fn (a) (do (let b a) HERE))) (run (call f 1)) (run (call f 2)))", "(run (call (fn () (vars a) (set a b) HERE (back a))))", "(while 1 (do (let b 3) HERE (leave)))", "(do (say a) (let b 4) (do (let a b) HERE) (say (join a b)))",
	}
	insides := []string{"(say (join a b))", "(back a)", "(set a (+ b 1))", "(do (let x a) (set b x))", "(if (= b 1) (next) (leave))", "(say (call (fn (x) (let a x) (set b a) (back a)) b))", "(do (say b) (let b 5) (say b))"}
	put := func(around string, inside string) string { return strings.ReplaceAll(around, "HERE", inside) }
	asked := 0
	for o, outer := range arounds {
		for _, middle := range arounds {
			for n, inner := range arounds {
				for m, inside := range insides {
					if (o+n+m)%2 == 0 {
						continue
					}
					l := signsOf(t, "(let b 1) (let a 1) "+put(outer, put(middle, put(inner, inside)))+" (say (join a b))")
					if !impl.Scoped(l) {
						continue
					}
					if (n+m)%7 == 0 || impl.Captured(l) {
						checkLifted(t, l)
					}
					if impl.Captured(l) {
						continue
					}
					asked++
					checkSaysTheSame(t, l, checkNoLets(t, l), 0, 1, 60, 2000)
				}
			}
		}
	}
	if asked < 1500 {
		t.Errorf("only %d were asked", asked)
	}
}

// A do that is done again needs more Steps and no Cells any more, and a fn has the
// Cells of all its dos, of those that are not done, too: there is no room or no fuel
// sooner or later, which is no end that says otherwise.
func TestLiftedMayComeToNoEnd(t *testing.T) {
	for _, c := range []struct{ page, words, again string }{
		{"(let n 0) (while (< n 900) (do (let a n) (set n (+ a 1)) (if (= a 500) (say a) (do)))) (say 'z')", "500/z end", "500/z end"},
		{"(let n 0) (while (< n 1200) (do (let a n) (set n (+ a 1)) (if (= a 500) (say a) (do)))) (say 'z')", "500/z end", "500 fuel"},
		{"(let n 0) (while (< n 1200) (do (let a n) (set n (+ a 1)) (if (= a 500) (say a) (do)))) (say (+ 'z' 1))", "500 kind", "500 fuel"},
		// Cells of a do that is done again: no new ones any more.
		{"(let n 0) (while (< n 310) (do (if (= n 300) (say n) (do)) (set n (+ n 1)) (back 1) (let a 1) (let b 1)))", "end", "end"},
		{"(let n 0) (while (< n 410) (do (set n (+ n 1)) (if (= n 400) (say n) (do)) (next) (let a 1) (let b 1) (let c 1) (let d 1) (let e 1) (let f 1) (let g 1) (let h 1) (let i 1) (let j 1))) (say 'z')", "many", "400/z end"},
		{"(let n 0) (while (< n 410) (do (set n (+ n 1)) (if (= n 390) (say n) (do)) (next) (let a 1) (let b 1) (let c 1) (let d 1) (let e 1) (let f 1) (let g 1) (let h 1) (let i 1) (let j 1))) (say (+ 'z' 1))", "390 many", "390 kind"},
		// Cells of a do that is not done: there they are.
		{"(let f (fn () (if 0 (do (let a 1) (let b 1) (let c 1) (let d 1) (let e 1) (let g 1) (let h 1) (let i 1)) (do)))) (let n 0) (while (< n 600) (do (set n (+ n 1)) (if (= n 499) (say n) (do)) (run (call f)))) (say 'z')", "499/z end", "499 many"},
		{"(let f (fn () (if 0 (do (let a 1) (let b 1) (let c 1) (let d 1) (let e 1) (let g 1) (let h 1) (let i 1)) (do)))) (let n 0) (while (< n 499) (do (set n (+ n 1)) (run (call f)))) (say 'z')", "z end", "z end"},
	} {
		l := signsOf(t, c.page)
		a, b := checkShow(t, l, impl.MaxFuel), checkShow(t, impl.Lifted(l), impl.MaxFuel)
		if impl.Words(a) != c.words || impl.Words(b) != c.again {
			t.Errorf("%s: %s; said again %s", shortPlay(l), showShow(a), showShow(b))
		}
		checkPromiseEighteen(t, l)
	}
}

// Promise 21, for the functions of chapter 18, from here on.
func liftLists(t *testing.T) [][]string {
	lists := oldLists(t)
	for _, l := range madePlays(60) {
		lists = append(lists, l, wrappedAhead(l))
	}
	for _, c := range liftCases() {
		lists = append(lists, signsOf(t, c.page), signsOf(t, nonesPage(c.again)))
	}
	for _, page := range noLets() {
		lists = append(lists, signsOf(t, page))
	}
	for _, c := range unliftable() {
		lists = append(lists, signsOf(t, c.page))
	}
	for _, signs := range []int{impl.MaxSigns - 9, impl.MaxSigns - 8, impl.MaxSigns - 4, impl.MaxSigns - 3, impl.MaxSigns, impl.MaxSigns + 1} {
		lists = append(lists, filledUp("(let a 1) FILL", signs), filledUp("(do (let a 1) FILL)", signs), filledUp("FILL", signs))
	}
	for _, dos := range []int{58, 59, 60} {
		lists = append(lists, within(dos, "( do", "( let a 1 )", ")"))
	}
	return append(lists, nil, []string{}, []string{"A"}, []string{"(", "let", "a", "1"}, []string{"(", "let", "a"}, []string{"(", "let"}, []string{"let"}, []string{"(", "let", ")"}, []string{"(", "do", "(", "let", "a", "1"}, []string{"(", "vars"}, []string{"(", "fn", "(", ")", "(", "let", "a", "1", ")", ")"})
}

func TestLiftedLeavesWhatIsGiven(t *testing.T) {
	for _, list := range liftLists(t) {
		l, room := roomy(list)
		was := slices.Clone(room)
		answer := liftedOf(l)
		kept := liftAnswers{slices.Clone(answer.lets), slices.Clone(answer.said)}
		if !slices.Equal(room, was) {
			t.Fatalf("%s became %s", shortList(was), shortList(room))
		}
		overwritten(impl.Lifted(l))
		overwritten(impl.LetsIn(l))
		if !slices.Equal(room, was) || !sameLifted(answer, kept) {
			t.Fatalf("%s: an answer shares memory with another one, or with what was given", shortPlay(l))
		}
		overwritten(l)
		if !sameLifted(answer, kept) {
			t.Fatalf("%s: %s became %s", shortPlay(list), showLifted(kept), showLifted(answer))
		}
		copy(room, was)
		overwritten(answer.lets)
		overwritten(answer.said)
		if again := liftedOf(l); !sameLifted(again, kept) || !slices.Equal(room, was) {
			t.Fatalf("%s: %s, and again %s", shortPlay(l), showLifted(kept), showLifted(again))
		}
	}
}

// What is asked again is answered again, whatever was asked between.
func TestLiftedKeepsNothing(t *testing.T) {
	cases := liftCases()
	for range 2 {
		for _, c := range cases {
			want := liftAnswers{strings.Fields(c.lets), signsOf(t, nonesPage(c.again))}
			if got := liftedOf(signsOf(t, c.page)); !sameLifted(got, want) {
				t.Fatalf("%s: %s; want %s", c.page, showLifted(got), showLifted(want))
			}
			checkNothingLifted(t, signsOf(t, c.page+" (say q0)"))
			if again := impl.Lifted(want.said); !slices.Equal(again, want.said) {
				t.Fatalf("%s: once more %s", shortPlay(want.said), shortPlay(again))
			}
		}
		slices.Reverse(cases)
	}
}

// What stands in the spare room behind a play is no part of it: no let there is
// told, and no name there is anybody's.
func TestLiftedDoesNotReadTheSpareRoom(t *testing.T) {
	whole := signsOf(t, "(say 1) (let a 2) (do (let v0 a) (run (fn (v1) (let b v0) (while 1 (do (let a b) (leave))))))")
	for n := range len(whole) + 1 {
		checkLifted(t, whole[:n])
		checkLifted(t, slices.Clip(whole[:n]))
	}
	for _, c := range []struct {
		length int
		lets   string
		again  string
	}{{0, "", ""}, {3, "", ""}, {4, "", "(say 1)"}, {5, "", ""}, {8, "", ""}, {9, "a", "(vars v0) (say 1) (set v0 2)"}, {10, "", ""}, {len(whole) - 1, "", ""}, {len(whole), "a v0 b a", "(vars v2 v3) (say 1) (set v2 2) (do (set v3 none) (set v3 v2) (run (fn (v1) (vars v4 v5) (set v4 v3) (while 1 (do (set v5 none) (set v5 v4) (leave))))))"}} {
		if got, want := liftedOf(whole[:c.length]), (liftAnswers{strings.Fields(c.lets), signsOf(t, c.again)}); !sameLifted(got, want) {
			t.Errorf("the first %d: %s; want %s", c.length, showLifted(got), showLifted(want))
		}
	}
}

// isLeftByItsLabel asks for a loop that has a label, and in it a break by that.
func isLeftByItsLabel(n ast.Node) bool {
	labelled, is := n.(*ast.LabeledStmt)
	if !is {
		return false
	}
	switch labelled.Stmt.(type) {
	case *ast.ForStmt, *ast.RangeStmt:
	default:
		return false
	}
	found := false
	ast.Inspect(labelled.Stmt, func(n ast.Node) bool {
		b, is := n.(*ast.BranchStmt)
		found = found || is && b.Tok == token.BREAK && b.Label != nil && b.Label.Name == labelled.Label.Name
		return true
	})
	return found
}

// The line "lift" of the document's chapter Ways.
func TestALoopIsLeftByItsLabel(t *testing.T) {
	if !hasNode(t, "../impl/l18_lift.go", isLeftByItsLabel) {
		t.Error("in the layer of what is lifted there is no loop that a label leaves")
	}
}
