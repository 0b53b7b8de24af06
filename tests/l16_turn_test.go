package tests

import (
	"fmt"
	"go/ast"
	"slices"
	"strconv"
	"strings"
	"testing"

	"loop.example/g00544/impl"
)

func turnedOf(l []string) turnAnswers { return turnAnswers{impl.ForsIn(l), impl.Turned(l)} }

func sameTurned(a turnAnswers, b turnAnswers) bool {
	return a.count == b.count && slices.Equal(a.said, b.said)
}

func showTurned(a turnAnswers) string { return fmt.Sprintf("%d, %s", a.count, shortPlay(a.said)) }

// checkTurned holds the program against the slow reading, and tells what it says.
func checkTurned(t *testing.T, l []string) turnAnswers {
	t.Helper()
	got := turnedOf(l)
	if want := turnedSlowly(l); !sameTurned(got, want) {
		t.Errorf("%s: %s; read slowly %s", shortPlay(l), showTurned(got), showTurned(want))
	}
	return got
}

func checkNothingTurned(t *testing.T, l []string) {
	t.Helper()
	if got := turnedOf(l); got.count != -1 || len(got.said) > 0 {
		t.Errorf("%s: %s", shortPlay(l), showTurned(got))
	}
}

func checkTurnedAsItIs(t *testing.T, l []string) {
	t.Helper()
	if got := turnedOf(l); got.count != 0 || !slices.Equal(got.said, l) {
		t.Errorf("%s: %s", shortPlay(l), showTurned(got))
	}
}

func TestTurned(t *testing.T) {
	for _, c := range turnCases() {
		l, again := signsOf(t, c.page), signsOf(t, turnsPage(c.again))
		got := checkTurned(t, l)
		if !slices.Equal(got.said, again) {
			t.Errorf("%s: %s; want %s", c.page, shortPlay(got.said), impl.ShowSigns(again))
		}
		if got.count != c.count {
			t.Errorf("%s: %d fors; want %d", c.page, got.count, c.count)
		}
		for _, said := range [][]string{l, got.said} {
			if words := impl.Words(checkShow(t, said, impl.MaxFuel)); words != c.words {
				t.Errorf("%s says %q; want %q", shortPlay(said), words, c.words)
			}
		}
	}
}

func TestTurnedWhereThereAreNoFors(t *testing.T) {
	checkTurnedAsItIs(t, nil)
	checkTurnedAsItIs(t, []string{})
	for _, page := range noTurns() {
		checkTurnedAsItIs(t, signsOf(t, page))
		checkTurned(t, signsOf(t, page))
	}
	for _, a := range arounds() {
		for _, deed := range newDeeds() {
			page, isNew := deed.alone()
			l := signsOf(t, a.with(page))
			if a.adds != "for" && isNew != "for" {
				checkTurnedAsItIs(t, l)
			}
			checkTurned(t, l)
		}
	}
}

func TestForsIn(t *testing.T) {
	for _, c := range []struct {
		page string
		want int64
	}{
		{"", 0}, {"(say 1)", 0}, {"(say 'for')", 0}, {"(let fors 1)", 0}, {"(while 1 (leave))", 0}, {"(do (let v0 0) (while (< v0 3) (set v0 (+ v0 1))))", 0}, {"(vars a b)", 0}, {"(run (fn ((x 1))))", 0},
		{"(for i 0 3 (say i))", 1}, {"(for i none 'a' (do))", 1}, {"(say 1) (for i 0 1 (do)) (say 2)", 1}, {"(vars i) (for i i i (set i i))", 1},
		// Beside each other.
		{"(for i 0 1 (do)) (for i 0 1 (do))", 2}, {"(for i 0 1 (do)) (do (for i 0 1 (do)) (for j 0 1 (do)))", 3}, {"(run (thing (fn () (for i 0 1 (do))) 1 (fn () (for i 0 1 (do)))))", 2}, {"(if 1 (for i 0 1 (do)) (for i 0 1 (do)))", 2},
		// Within each other.
		{"(for i 0 3 (for j 0 i (do)))", 2}, {"(for i 0 3 (for i 0 i (for i 0 i (say i))))", 3}, {"(for i (fn () (for i 0 1 (do))) 1 (do))", 2}, {"(for i 0 (fn () (for i 0 1 (do))) (do))", 2}, {"(for i (fn () (for j 0 1 (do))) (fn () (for k 0 1 (do)) (for k 0 1 (do))) (do (for l 0 1 (for m 0 1 (do)))))", 6},
		// In whatever stands around.
		{"(do (do (for i 0 1 (do))))", 1}, {"(while (fn () (for i 0 1 (do))) (for i 0 1 (do)))", 2}, {"(run (fn (x) (vars y) (for i x y (do))))", 1}, {"(run (fn ((x (fn () (for i 0 1 (do))))) (for i 0 x (do))))", 2}, {"(run (call (fn () (for i 0 1 (do))) (fn () (for i 0 1 (do)))))", 2}, {"(let a (fn () (for i 0 1 (do)))) (set a (fn () (for i 0 1 (do)))) (take (b) (fn () (for i 0 1 (do)))) (back (join (fn () (for i 0 1 (do)))))", 4}, {"(hidden p) (hput p (fn () (for i 0 1 (do))) (fn () (for i 0 1 (do)))) (run (hget p (fn () (for i 0 1 (do)))))", 3},
		// Where it is not Scoped, whatever fors are in it.
		{"(say q)", -1}, {"(for i 0 q (do))", -1}, {"(for i i 1 (do))", -1}, {"(for i 0 i (do))", -1}, {"(for i 0 1 (do)) (say i)", -1}, {"(for i 0 1 (set j i))", -1}, {"(for i 0 1 (run (hget i 1)))", -1}, {"(for i 0 1 (run (fn () (leave))))", -1}, {"(for i (fn () (next)) 1 (do))", -1}, {"(for i 0 1 (do (vars a)))", -1}, {"(for i 0 1 (do)) (vars a)", -1}, {"(for i 0 1 (do (let a 1) (let a 2)))", -1}, {"(for i 0 1 (do)) (leave)", -1}, {"(for v0 v1 1 (do))", -1},
		// What is no play.
		{"for", -1}, {"(for)", -1}, {"(for i)", -1}, {"(for i 0)", -1}, {"(for i 0 1)", -1}, {"(for i 0 1 (do) (do))", -1}, {"(for 0 1 (do))", -1}, {"(for 5 0 1 (do))", -1}, {"(for (i) 0 1 (do))", -1}, {"(for none 0 1 (do))", -1}, {"(for for 0 1 (do))", -1}, {"(for 'i' 0 1 (do))", -1}, {"(for i 0 1 i)", -1}, {"(for i 0 1 (+ 1 2))", -1}, {"(for i (do) 1 (do))", -1}, {"(for i 0 (do) (do))", -1}, {"(for i (for j 0 1 (do)) 1 (do))", -1}, {"(for i 0 1 (let a 1))", -1}, {"(for i 0 1 (take (a) 1))", -1}, {"(for i 0 1 (hidden a))", -1}, {"(for i 0 1 (vars a))", -1}, {"(say (for i 0 1 (do)))", -1}, {"(run for)", -1}, {"(for i 0 1 (do)", -1}, {"(for i 0 1 (do)))", -1}, {"(for i 0 1 (do)) 5", -1}, {"((for i 0 1 (do)))", -1}, {"(", -1}, {")", -1}, {"5", -1},
	} {
		if got := impl.ForsIn(signsOf(t, c.page)); got != c.want {
			t.Errorf("%s: %d; want %d", c.page, got, c.want)
		}
		checkTurned(t, signsOf(t, c.page))
	}
}

// Of each thing that Scoped asks for, that one alone broken, beside and within
// fors.
func TestTurnedOfWhatIsNotScoped(t *testing.T) {
	for _, broken := range slices.Concat(brokenPages(), []string{
		"(for x x 1 (do))", "(for x 0 x (do))", "(for x 0 1 (do)) (say x)", "(for x 0 1 (say v0))", "(for x 0 1 (set z x))", "(for x 0 1 (hput x 1 2))", "(for x 0 1 (do (vars y)))", "(for x 0 1 (do (let y 1) (let y 2)))", "(for x (fn () (leave)) 1 (do))", "(for x 0 1 (run (fn () (next))))", "(for x (fn (y y)) 1 (do))", "(for x 0 1 (do (hidden y) (hidden y)))", "(for x 0 1 (do)) (next)", "(for x (fn () (back x)) 1 (do))",
	}) {
		for _, page := range []string{
			broken, "(for b 0 1 (do)) " + broken, broken + " (do (for b 0 1 (for c 0 b (do))))", "(do " + broken + " (do (for b 0 1 (say b))))", "(run (fn () (for b 0 1 (do)) " + broken + "))", "(for b (fn () " + broken + ") 1 (do))", "(for b 0 (fn () " + broken + ") (do))", "(for b 0 1 (run (fn () " + broken + ")))",
		} {
			l := signsOf(t, page)
			if !impl.PlayOk(l) || impl.Scoped(l) {
				t.Errorf("%s: the test itself is wrong", page)
			}
			checkNothingTurned(t, l)
			checkTurned(t, l)
		}
	}
}

func TestTurnedOfWhatIsNoPlay(t *testing.T) {
	play := signsOf(t, "(for b 0 2 (do (run (fn ((c 1)) (for d (fn () (for b c 3 (do))) 4 (leave)) (back c)))))")
	for _, page := range []string{
		"a", "5", "'a'", "none", "+", "(", ")", "( )", "for", "(+ 1 2)", "(for)", "(for i)", "(for i 0)", "(for i 0 1)", "(for i 0 1 2)", "(for i 0 1 (do) (do))", "(for i 0 1 2 (do))", "(for 0 1 (do))", "(for 5 0 1 (do))", "(for 'i' 0 1 (do))", "(for none 0 1 (do))", "(for for 0 1 (do))", "(for let 0 1 (do))", "(for (i) 0 1 (do))", "(for i (0) 1 (do))", "(for i 0 (1) (do))", "(for i 0 1 ((do)))", "(for i 0 1 ())", "(for i () 1 (do))", "(for i 0 1 i)", "(for i 0 1 (+ 1 2))", "(for i (do) 1 (do))", "(for i 0 (say 1) (do))", "(for i 0 1 (let a 1))", "(for i 0 1 (take (a) 1))", "(for i 0 1 (hidden a))", "(for i 0 1 (vars a))", "(for i 0 1 (fn ()))",
		"(for i 0 1 (do)", "(for i 0 1 (do)))", "(for i 0 1", "(for i 0", "(for i", "(for", "(do (for i 0 1 (do))", ")(", "((for i 0 1 (do)))", "(say (for i 0 1 (do)))", "(run for)", "(set for 1)", "(let for 1)", "(take (for) 1)", "(hidden for)", "(vars for)", "(run (fn (for)))", "(run (fn ((for 1))))", "(run (hget for 1))", "(say 1) 5", "(for i 0 1 (do)) i",
	} {
		l := signsOf(t, page)
		for _, list := range [][]string{l, slices.Concat(play, l), slices.Concat(l, play), slices.Concat([]string{"(", "do"}, play, l, []string{")"}), slices.Concat([]string{"(", "for", "i", "0", "1", "(", "do"}, l, play, []string{")", ")"})} {
			checkNothingTurned(t, list)
		}
	}
	for _, bad := range wrongSigns() {
		for _, list := range [][]string{{bad}, slices.Concat(play, []string{bad}), slices.Concat([]string{bad}, play), signsWith("(for X 0 1 (do))", bad), signsWith("(for i X 1 (do))", bad), signsWith("(for i 0 X (do))", bad), signsWith("(for i 0 1 X)", bad), signsWith("(for i 0 1 (X))", bad), signsWith("(X i 0 1 (do))", bad), signsWith("(for i 0 1 (say X))", bad), signsWith("(for i 0 1 (do)) (say X)", bad)} {
			checkNothingTurned(t, list)
		}
	}
	for _, l := range itemLists(t) {
		if len(l) > 0 && !impl.PlayOk(l) {
			checkNothingTurned(t, l)
		}
	}
	for _, n := range []int{impl.MaxSigns, 100000} {
		for _, l := range [][]string{within(n, "(", "for", ")"), within(n, "(", "", ""), within(n, "( for", "", ")"), within(n, "( for i 0 1", "( do )", ")"), within(n, "( for i ( fn ( )", "", ") 1 ( do ) )"), within(n, "( for i 0 1", "", ""), within(n, ")", "", "("), slices.Repeat([]string{"for"}, n), slices.Repeat([]string{"(", "for"}, n), slices.Repeat([]string{"(", "for", "i"}, n), slices.Repeat(play, n)} {
			checkNothingTurned(t, l)
		}
	}
}

// Another sign at each place: other names, and words that make another form.
func TestTurnedWithOneSignChanged(t *testing.T) {
	scoped, fors := 0, 0
	for _, c := range turnCases() {
		l := signsOf(t, c.page)
		for at := range l {
			for _, other := range []string{"i", "j", "v0", "v1", "1", "for", "while", "do", "run", "A"} {
				changed := slices.Clone(l)
				changed[at] = other
				if count := checkTurned(t, changed).count; count >= 0 {
					scoped++
					fors += int(count)
				}
			}
			checkTurned(t, slices.Delete(slices.Clone(l), at, at+1))
		}
		if t.Failed() {
			return
		}
	}
	if scoped < 2000 || fors < 4000 {
		t.Errorf("only %d were Scoped, with %d fors", scoped, fors)
	}
}

// F and G of each for, in the order in which they begin: those of FreshMany,
// whoever has some of them already.
func TestTurnedTakesTheFirstFreshNames(t *testing.T) {
	pages := []string{
		"(for a OWN 1 (for b 0 OWN (do))) (do (for c 0 1 (do)))", "(for a (fn () (for b 0 OWN (do)) (back OWN)) (fn () (for c OWN 1 (do))) (for d 0 1 (say OWN)))", "(run (fn ((x (fn () (for OWN 0 1 (say OWN))))) (for b 0 1 (do)))) (if 1 (for a 0 1 (do)) (while 1 (for OWN OWN 1 (leave))))",
	}
	for _, page := range pages {
		for bits := range 1 << 6 {
			var own []string
			for n := range 6 {
				if bits>>n&1 == 1 {
					own = append(own, vNumber(int64(n)))
				}
			}
			own = append(own, "v13", "v00", "w0")
			l := signsOf(t, "(let "+strings.Join(own, " 1) (let ")+" 1) "+strings.ReplaceAll(page, "OWN", own[bits%len(own)]))
			got := checkTurned(t, l)
			want := impl.FreshMany(l, 2*got.count)
			var is []string
			for at, sign := range got.said {
				// F and G stand side by side in (< F G) alone.
				if sign == "<" {
					is = append(is, got.said[at+1], got.said[at+2])
				}
			}
			sorted, wanted := slices.Sorted(slices.Values(is)), slices.Sorted(slices.Values(want))
			if !slices.Equal(sorted, wanted) || !slices.Equal(want, freshManySlowly(l, 2*got.count)) || len(is) < 6 {
				t.Fatalf("%s: %q; want %q", shortPlay(l), is, want)
			}
			for at := 0; at < len(is); at += 2 {
				if n := slices.Index(want, is[at]); n%2 != 0 || want[n+1] != is[at+1] {
					t.Fatalf("%s: %q are not two side by side of %q", shortPlay(l), is[at:at+2], want)
				}
			}
		}
	}
}

// Those of the for that begins first are the first ones, be it around another one
// or ahead of it.
func TestTurnedGivesFreshNamesAsForsBegin(t *testing.T) {
	for _, page := range []string{
		"(for X0 0 1 (do)) (for X1 0 1 (do)) (for X2 0 1 (do))", "(for X0 0 1 (for X1 0 1 (for X2 0 1 (do))))", "(for X0 (fn () (for X1 0 1 (do))) (fn () (for X2 0 1 (do))) (for X3 0 1 (do)))", "(for X0 (fn () (for X1 (fn () (for X2 0 1 (do))) 1 (do))) 1 (do)) (for X3 0 1 (do))", "(do (for X0 0 1 (do (run (fn () (for X1 0 1 (do)))) (for X2 0 1 (do))))) (run (thing (fn () (for X3 0 1 (do))) (fn () (for X4 0 1 (do)))))", "(if (fn () (for X0 0 1 (do))) (for X1 0 1 (do)) (for X2 0 1 (do)))", "(while (fn () (for X0 0 1 (do))) (for X1 0 1 (do)))", "(run (fn ((a (fn () (for X0 0 1 (do)))) (b (fn () (for X1 0 1 (do))))) (for X2 0 1 (do))))",
	} {
		l := signsOf(t, strings.ReplaceAll(page, "X", "x"))
		turned := checkTurned(t, l).said
		asked := 0
		for at, sign := range turned {
			if sign != "let" || turned[at+1][0] != 'x' {
				continue
			}
			n, _ := strconv.Atoi(turned[at+1][1:])
			// Ahead of (let NAME F) stands (< F G) and ( do (.
			if want := []string{vNumber(int64(2 * n)), vNumber(int64(2*n + 1))}; !slices.Equal(turned[at-6:at-4], want) || turned[at+2] != want[0] {
				t.Errorf("%s: %s", page, shortPlay(turned))
			}
			asked++
		}
		if asked != strings.Count(page, "for") {
			t.Errorf("%s: %d were asked", page, asked)
		}
	}
}

// depthsOfTurned have something DEEP in a for, which is deeper in what is said
// again: a SUM by one, the DEED by two.
func depthsOfTurned() []depthOfGiven {
	return []depthOfGiven{
		{"DEEP", 0, 0, false}, {"(for i 0 1 (do)) DEEP", 0, 0, false}, {"DEEP (for i 0 1 (do))", 0, 0, false}, {"(do (for i 0 1 (do)) DEEP)", 1, 1, false}, {"(for i 0 1 DEEP)", 1, 3, false}, {"(for i 0 1 (do (say i) DEEP))", 2, 4, false}, {"(do (for i 0 1 DEEP))", 2, 4, false}, {"(for i 0 1 (for j 0 1 DEEP))", 2, 6, false}, {"(for i 0 1 (for j 0 1 (for k 0 1 DEEP)))", 3, 9, false}, {"(while 1 (if 1 (do) (for i 0 1 DEEP)))", 3, 5, false},
		{"(for i (fn () DEEP) 1 (do))", 2, 3, false}, {"(for i 0 (fn () DEEP) (do))", 2, 3, false}, {"(for i (fn () (for j 0 1 DEEP)) 1 (do))", 3, 6, false}, {"(for i 0 (fn () (for j 0 (fn () DEEP) (do))) (do))", 4, 6, false}, {"(for i 0 1 (run (fn () DEEP)))", 3, 5, false}, {"(run (fn ((x (fn () (for i 0 1 DEEP))))))", 6, 8, false},
		{"(for i DEEP 1 (do))", 1, 2, true}, {"(for i 0 DEEP (do))", 1, 2, true}, {"(for i 0 1 (say DEEP))", 2, 4, true}, {"(run DEEP) (for i 0 1 (do))", 1, 1, true}, {"(for i 0 1 (for j DEEP 1 (do)))", 2, 5, true}, {"(for i 0 1 (for j 0 DEEP (do)))", 2, 5, true}, {"(for i (+ 1 DEEP) 1 (do))", 2, 3, true}, {"(for i (fn ((x DEEP))) 1 (do))", 4, 5, true},
	}
}

func TestTurnedAtMaxDepth(t *testing.T) {
	for _, d := range depthsOfTurned() {
		for deep := 48; deep <= impl.MaxDepth+2; deep++ {
			got := checkTurned(t, d.with(t, deep))
			isPlay, saysIt := d.before+deep <= impl.MaxDepth, d.after+deep <= impl.MaxDepth
			if (got.count >= 0) != isPlay || (len(got.said) > 0) != saysIt {
				t.Errorf("%s, %d deep: %s", d.page, deep, showTurned(got))
			}
		}
	}
	// A for is five deep by itself when it is said again.
	for _, c := range []struct {
		inside         string
		count          int64
		isPlay, saysIt int
	}{
		{"( for i 0 1 ( do ) )", 1, 58, 55}, {"( for i 0 1 ( leave ) )", 1, 58, 55}, {"( for i 0 1 ( say ( + i 1 ) ) )", 1, 57, 55}, {"( for i ( + 1 2 ) 1 ( do ) )", 1, 58, 55}, {"( for i 0 1 ( do ( do ( do ) ) ) )", 1, 56, 54}, {"( say 1 ) ( for i 0 1 ( do ) )", 1, 58, 55}, {"( for i 0 1 ( for j 0 1 ( do ) ) )", 2, 57, 52}, {"( run ( fn ( ) ( for i 0 1 ( do ) ) ) )", 1, 56, 53}, {"( say 1 )", 0, 59, 59},
	} {
		for dos := range 62 {
			l := within(dos, "( do", c.inside, ")")
			got := checkTurned(t, l)
			isPlay, saysIt := dos <= c.isPlay, dos <= c.saysIt
			if isPlay && got.count != c.count || !isPlay && got.count != -1 || (len(got.said) > 0) != saysIt {
				t.Errorf("%s in %d dos: %s", c.inside, dos, showTurned(got))
			}
		}
	}
}

// moreSigns is how many more signs a for has when it is said again.
const moreSigns = 32

func TestTurnedAtMaxSigns(t *testing.T) {
	for _, c := range []struct {
		page string
		fors int
	}{
		{"FILL", 0}, {"(run (fn (x) FILL))", 0}, {"(for i 0 1 (do)) FILL", 1}, {"FILL (for i 0 1 (do))", 1}, {"(for i 0 1 (do FILL))", 1}, {"(for i (fn () FILL) 1 (do))", 1}, {"(for i 0 (fn () FILL) (do))", 1}, {"(for i 0 1 (for j 0 i (do FILL)))", 2}, {"(for i 0 1 (do)) (do (for i 0 1 (do)) FILL) (for i 0 1 (do))", 3},
		{"(for i (fn () (for i 0 1 (do))) (fn () (for i 0 1 (do FILL))) (for i 0 1 (do)))", 4}, {"(run (fn ((x (fn () (for i 0 1 (do))))) FILL (for i 0 x (do))))", 2}, {"(vars a) (while 1 (for i 0 1 (leave))) FILL", 1},
	} {
		more := moreSigns * c.fors
		for _, signs := range []int{150, impl.MaxSigns - more - 1, impl.MaxSigns - more, impl.MaxSigns - more + 1, impl.MaxSigns - 1, impl.MaxSigns, impl.MaxSigns + 1} {
			l := filledUp(c.page, signs)
			count := int64(c.fors)
			if signs > impl.MaxSigns {
				count = -1
			}
			got, saysIt := turnedOf(l), signs+more <= impl.MaxSigns
			if len(l) != signs || got.count != count || saysIt && len(got.said) != signs+more || !saysIt && len(got.said) > 0 {
				t.Errorf("%s with %d signs: %d, %d signs", c.page, len(l), got.count, len(got.said))
			}
			if c.fors == 0 && saysIt && !slices.Equal(got.said, l) {
				t.Errorf("%s with %d signs is not as it is", c.page, len(l))
			}
			if saysIt {
				checkTurned(t, l)
			}
		}
	}
}

// As many as there may be: fors beside each other and within each other.
func TestTurnedOfMany(t *testing.T) {
	for n := range 224 {
		var fors, turns []string
		for at := range n {
			fors, turns = append(fors, "(for i 0 1 (do))"), append(turns, fmt.Sprintf("[v%d v%d i: 0 | 1 | (do)]", 2*at, 2*at+1))
		}
		want := turnAnswers{count: int64(n)}
		if (9+moreSigns)*n <= impl.MaxSigns {
			want.said = signsOf(t, turnsPage(strings.Join(turns, " ")))
		}
		if 9*n > impl.MaxSigns {
			want.count = -1
		}
		if got := turnedOf(wordsOf(strings.Join(fors, " "))); !sameTurned(got, want) {
			t.Errorf("%d beside each other: %d, %d signs; want %d, %d signs", n, got.count, len(got.said), want.count, len(want.said))
		}
	}
	said := 0
	for n := range 60 {
		for _, page := range []string{"( for i 0 1|( say 1 )|)", "( for i i 2|( say i )|)", "( for i 0 1 ( do|( leave )|( say i ) ) )", "( for i ( fn ( )|( say i )|) 1 ( next ) )", "( for i 0 ( fn ( )|( say i )|( for j 0 1 ( do ) ) ) ( leave ) )", "( if 1|( say i )|( for j 0 1 ( do ) ) )"} {
			parts := strings.Split(page, "|")
			l := slices.Concat([]string{"(", "let", "i", "1", ")", "(", "while", "1", "(", "do"}, within(n, parts[0], parts[1], parts[2]), []string{")", ")"})
			if got := checkTurned(t, l); len(got.said) > 0 {
				said++
			}
		}
	}
	if said < 100 {
		t.Errorf("only %d of those within each other are said again", said)
	}
}

// checkPromiseSixteen asks that Turned says the same, and that there are no fors
// any more; it tells with which Fault both end, with MaxFuel.
func checkPromiseSixteen(t *testing.T, l []string) int64 {
	t.Helper()
	turned, fors := impl.Turned(l), impl.ForsIn(l)
	if !impl.Scoped(turned) || impl.ForsIn(turned) != 0 || slices.Contains(turned, "for") || int64(len(turned)) != int64(len(l))+moreSigns*fors {
		t.Fatalf("%s: %s", shortPlay(l), shortPlay(turned))
	}
	wasNew := slices.DeleteFunc(impl.NewIn(l), func(word string) bool { return word == "for" || word == "let" })
	if fors > 0 || impl.Count(l, "let") > 0 {
		wasNew = append(wasNew, "let")
	}
	if isNew := impl.NewIn(turned); !slices.Equal(isNew, wasNew) {
		t.Fatalf("%s: %q are new; want %q", shortPlay(turned), isNew, wasNew)
	}
	if again := impl.Turned(turned); !slices.Equal(again, turned) || fors == 0 != slices.Equal(turned, l) {
		t.Fatalf("%s: %s, and once more %s", shortPlay(l), shortPlay(turned), shortPlay(again))
	}
	first, second := impl.Played(l, impl.MaxFuel), impl.Played(turned, impl.MaxFuel)
	checkSaysTheSame(t, l, turned, fuelsFor(first, second)...)
	if first.Fault == second.Fault && slices.Equal(first.Said, second.Said) {
		return first.Fault
	}
	// It has more Steps and more Cells, so that it may come to no end where the
	// play comes to one.
	if impl.Ended(second) {
		t.Fatalf("%s: %s; said again %s", shortPlay(l), showShow(first), showShow(second))
	}
	return second.Fault
}

// Promise 16: Turned says the same, and there are no fors any more.
func TestTurnedSaysTheSame(t *testing.T) {
	for _, c := range turnCases() {
		l := signsOf(t, c.page)
		checkPromiseSixteen(t, l)
		// With each fuel, by both players.
		turned := impl.Turned(l)
		slow, slowTurned := slowPlayOf(l), slowPlayOf(turned)
		for fuel := range min(impl.Played(turned, impl.MaxFuel).Steps, 250) + 3 {
			a, b := impl.Played(l, fuel), impl.Played(turned, fuel)
			if !impl.Alike(a, b) || !alikeSlowly(slow.played(fuel), slowTurned.played(fuel)) {
				t.Fatalf("%s with fuel %d: %s; said again %s", c.page, fuel, showShow(a), showShow(b))
			}
		}
	}
	for _, page := range noTurns() {
		checkPromiseSixteen(t, signsOf(t, page))
	}
}

// A wheel puts deeds of a play into a for of their own, each third one, by one
// NAME after the other.
type wheel struct{ count int }

var wheelTree = formTree("(for NAME A B DEED)")

func (w *wheel) all(list []tree) []tree {
	var out []tree
	for _, n := range list {
		out = append(out, w.one(n))
	}
	return out
}

func (w *wheel) one(n tree) tree {
	inner := tree{n.sign, n.isList, w.all(n.within)}
	if !isRuled(n) {
		return inner
	}
	w.count++
	if w.count%3 != 0 {
		return inner
	}
	word := func(of ...string) []tree { return []tree{{sign: of[w.count/3%len(of)]}} }
	return filling{"NAME": word("n0", "zi", "v0", "t1", "v3"), "A": word("0", "-1", "1", "2"), "B": word("2", "1", "3"), "DEED": {inner}}.fill(wheelTree)[0]
}

func manyTurned(l []string) []string {
	w := &wheel{}
	return signsOfTrees(w.all(blockOf(playTree(l))))
}

func TestTurnedOfMadePlaysSaysTheSame(t *testing.T) {
	t.Parallel()
	ends, fors, several := map[int64]int{}, 0, 0
	check := func(n int, l []string) {
		if !impl.Scoped(l) || len(impl.Turned(l)) == 0 {
			checkTurned(t, l)
			return
		}
		fault := checkPromiseSixteen(t, l)
		count := impl.ForsIn(l)
		if count > 0 {
			ends[fault]++
			fors++
		}
		if count > 3 {
			several++
		}
		if n%3 == 0 {
			checkTurned(t, l)
		}
	}
	for n, l := range playsToAsk(t, 150) {
		check(n, l)
		many := manyTurned(l)
		check(n, many)
		// By few names, and by those that would be fresh.
		if impl.Scoped(many) && n%2 == 0 {
			a := alphaOf(many)
			check(n, a.crowded())
			check(n, a.called(func(n int) string { return vNumber(int64(n * 2)) }))
		}
	}
	for fault := range int64(6) {
		if ends[fault] < 3 {
			t.Errorf("only %d of %d end with %d", ends[fault], fors, fault)
		}
	}
	if fors < 600 || several < 180 {
		t.Errorf("only %d have fors, %d more than three", fors, several)
	}
}

// turnPlaces have HERE as one deed in every place where one may stand.
func turnPlaces() []string {
	return []string{
		"HERE", "(say 'y') HERE (say 'z')", "(do HERE) (say 'z')", "(do (do) (do HERE (say 'y')) (say 'z'))", "(if 1 HERE (say 'e')) (say 'z')", "(if 0 (say 'e') HERE)", "(if 0 HERE (say 'e'))", "(if 1 (do HERE (say 'y')) (do))", "(let n 0) (while (< n 2) (if (= n (call (fn () (set n (+ n 1)) (back n)))) (do) HERE))", "(while 1 (do (while 1 (do HERE (leave))) (leave)))", "(let n 0) (while (< n 2) (do (set n (+ n 1)) HERE (say n)))",
		"(for o 0 2 HERE)", "(for o 0 2 (do (say o) HERE (say o)))", "(for i 0 2 HERE)", "(for o (call (fn () HERE (back 0))) 2 (say o))", "(for o 0 (call (fn () HERE (back 2))) (say o))", "(for o (call (fn () HERE (back 1))) (call (fn () HERE (back 3))) HERE)",
		"(say (call (fn () HERE (back 'k'))))", "(run (call (fn (x i) (vars y) HERE (say x)) 1))", "(run (call (fn ((x 4) (i x)) HERE (say x))))", "(run (call (fn (w (x (call (fn () HERE (back 3))))) (say x))))", "(let g (fn () HERE)) (run (call g)) (run (call g))", "(hidden i) (let t (thing)) (hput i t (call (fn () HERE (back 6)))) (say (hget i (call (fn () HERE (back t)))))", "(let v0 5) (let v1 (call (fn (v2) HERE (back v2)) v0)) (say v1)", "(take (i v1) (thing 8 9)) (do HERE) (say (join i v1))",
	}
}

// A DEED of each kind, in every place.
func TestTurnedOfEachDeed(t *testing.T) {
	deeds := []string{
		"(do)", "(say i)", "(set i (+ i 1))", "(set a i)", "(run (call f i))", "(put t i i)", "(hput p t i)", "(tput m t i)", "(back i)", "(leave)", "(next)", "(if (= i 1) (say i) (do))", "(if (= i 1) (next) (say i))", "(if (= i 1) (leave) (say i))", "(if (= i 1) (back i) (say i))", "(if i (do (say i) (leave)) (do (next)))", "(while (< a i) (do (set a (+ a 1)) (say a)))", "(while i (do (say i) (leave) (say 'no')))", "(while (< a 4) (do (set a (+ a 1)) (if (= a i) (next) (do)) (if (= a 3) (leave) (do)) (say (join i a))))", "(for j i 3 (say (join i j)))", "(for i i 3 (say i))", "(for j 0 3 (if (= i j) (next) (if (< i j) (leave) (say (join i j)))))", "(for j 0 (call (fn () (for i 0 9 (if (= i 2) (back i) (say i))))) (say j))",
		"(do (say i) (let b i) (set i 9) (say (join i b)))", "(do (say i) (let i 7) (say i))", "(do (take (b c) (thing i a)) (say (join b c)))", "(do (take (i) (thing 5)) (say i))", "(do (hidden q) (hput q t i) (say (hget q t)) (hput p t (hget q t)))", "(do (hput p t i) (say (hget p t)) (hidden p))", "(do (let g (fn () (vars k) (set k i) (back k))) (set f g) (say (call g)))", "(do (set f (fn (x) (say i) (set i (+ i x)) (back i))) (say (call f 2)) (if i (next) (do)) (say 'l'))", "(do (if (= i 1) (next) (do)) (do (say i) (if (= i 2) (leave) (do))) (say 'd'))", "(do (let v0 i) (let v2 v0) (set v0 9) (say (join i v2)))", "(say (+ i none))", "(say " + over + ")", "(if i (say (tget m (thing))) (say i))", "(if i (say t) (say i))",
	}
	asked, ends := 0, map[int64]int{}
	for _, place := range turnPlaces() {
		for n, deed := range deeds {
			for m, numbers := range []string{"0 3", "1 2", "2 2", "3 -1"} {
				if m > 1 && n%4 != 0 {
					continue
				}
				inside := "(for i " + numbers + " " + deed + ")"
				page := "(let a 0) (let t (thing)) (let m (table)) (tput m t 'm') (hidden p) (hput p t 'p') (let f (fn (x) (say (& 'f' x)))) (do " + strings.ReplaceAll(place, "HERE", inside) + ") (run (call f 4)) (say a) (say (get t 1)) (say (hget p t)) (say (tget m t))"
				l := signsOf(t, page)
				turned := impl.Turned(l)
				if !impl.Scoped(l) || impl.ForsIn(l) == 0 || len(turned) == 0 || impl.ForsIn(turned) != 0 {
					t.Fatalf("%s: %s", shortPlay(l), shortPlay(turned))
				}
				if asked++; asked%5 == 0 {
					checkTurned(t, l)
				}
				checkSaysTheSame(t, l, turned, 0, 1, 30, 67)
				ends[checkBothEnd(t, l, turned)]++
			}
		}
	}
	if asked < 2000 || ends[impl.FtNone] < 1500 || ends[impl.FtKind] < 90 || ends[impl.FtOver] < 40 || ends[impl.FtKey] < 40 {
		t.Errorf("%d were asked: %v", asked, ends)
	}
}

// Each kind of SUM, in the one and in the other.
func TestTurnedOfEachKindOfSum(t *testing.T) {
	sums := []string{
		"0", "1", "3", "-2", "999999999", "999999997", "-999999999", "-999999998", "i", "(+ i 1)", "n", "none", "'1'", "''", "(thing 1)", "(table)", "(fn () (back 1))", "(+ 1 none)", over, "(tget (table) (thing))", "(get (thing 2) 0)", "(call (fn () (say 's') (back 2)))", "(call (fn () (say 's')))", "(call (fn () (set i (+ i 1)) (back i)))", "(call (fn () (set n 2) (back 0)))", "(call (fn () (for i 0 9 (if (= i 2) (back i) (say i)))))", "(call (fn (x) (for x x 3 (for i x 3 (say (join x i)))) (back x)) 1)",
	}
	asked, ends := 0, map[int64]int{}
	for _, first := range sums {
		for _, second := range sums {
			for _, around := range []string{"HERE", "(run (call (fn (x) (vars y) HERE (back y))))", "(for k 0 2 (do (say (& 'k' k)) HERE))"} {
				page := "(let i 1) (let n 4) " + strings.ReplaceAll(around, "HERE", "(for i "+first+" "+second+" (do (say i) (set n (+ n 1)) (if (< n 9) (next) (leave)))) (say (join i n))")
				l := signsOf(t, page)
				turned := impl.Turned(l)
				if !impl.Scoped(l) || len(turned) == 0 || impl.ForsIn(turned) != 0 {
					t.Fatalf("%s: %s", shortPlay(l), shortPlay(turned))
				}
				if asked++; asked%7 == 0 {
					checkTurned(t, l)
				}
				checkSaysTheSame(t, l, turned, 0, 1, 17, 40)
				ends[checkBothEnd(t, l, turned)]++
			}
		}
	}
	if asked < 2000 || ends[impl.FtNone] < 500 || ends[impl.FtKind] < 500 || ends[impl.FtOver] < 50 || ends[impl.FtKey] < 50 {
		t.Errorf("%d were asked: %v", asked, ends)
	}
}

// A fn that has a for, in each place where a sum may stand.
func TestTurnedInEachPlace(t *testing.T) {
	sums := []string{
		"(call (fn () (for zi 0 3 (if (= zi 1) (back 'ab') (do)))))", "(call (fn () (for zi 0 3 (say zi)) (back 2)))", "(fn () (for zi 0 3 (back zi)))", "(call (fn ((zx 2)) (for zi 0 zx (set zx (+ zx zi))) (back zx)))", "(call (fn () (vars zx) (for zi 5 8 (set zx zi)) (back zx)))", "(call (fn ((zx (call (fn () (for zi 0 9 (if (= zi 2) (back zi) (do))))))) (for zi 0 zx (for zx 0 zi (say (join zi zx)))) (back 'ab')))", "(call (fn () (for zi 0 none (do)) (back 1)))",
	}
	ends := map[int64]int{}
	for _, place := range joinPlaces() {
		for _, sum := range sums {
			l := signsOf(t, strings.ReplaceAll(place.page, "HERE", sum))
			if impl.ForsIn(l) == 0 {
				t.Fatalf("%s: the test itself is wrong", shortPlay(l))
			}
			checkTurned(t, l)
			ends[checkPromiseSixteen(t, l)]++
		}
	}
	if ends[impl.FtNone] < 200 || ends[impl.FtKind] < 100 {
		t.Errorf("%v", ends)
	}
}

// Whatever stands within whatever stands within whatever.
func TestTurnedWithinOneAnother(t *testing.T) {
	t.Parallel()
	arounds := []string{
		"(for a 0 2 HERE)", "(for b a (+ a 2) (do (say (join a b)) HERE (set b 9)))", "(do (for a 0 3 (do (if (= a 1) (next) (do)) HERE (if (= a 2) (leave) (say 'f')))))", "(if b (for c 0 2 HERE) (say 'e'))", "(while (< b 3) (do (set b (+ b 1)) (for a b 3 HERE)))", "(say (call (fn (c) (for a 0 c HERE) (back a)) 2))", "(for c (call (fn () HERE (back 0))) 2 (say c))", "(for a 0 (call (fn () HERE (back b))) (say a))", "(do (let f (fn () (for b 0 2 HERE))) (run (call f)) (run (call f)))", "(run (call (fn ((d (call (fn () (for a 0 2 HERE) (back a))))) (say d))))", "(do HERE)",
	}
	insides := []string{"(say (join a b))", "(back a)", "(set a (+ b 1))", "(if (< b 2) (next) (leave))", "(for a 0 b (if (= a 1) (leave) (say a)))", "(do (let g (fn () (set a (+ a 1)) (back a))) (say (call g)) (say (call g)))"}
	put := func(around string, inside string) string { return strings.ReplaceAll(around, "HERE", inside) }
	asked := 0
	for o, outer := range arounds {
		for _, middle := range arounds {
			for n, inner := range arounds {
				for m, inside := range insides {
					if (o+n+m)%2 == 0 {
						continue
					}
					l := signsOf(t, "(let b 1) (let a 1) (do "+put(outer, put(middle, put(inner, inside)))+") (say (join a b))")
					if !impl.Scoped(l) {
						continue
					}
					if (n+m)%5 == 0 {
						checkTurned(t, l)
					}
					turned := impl.Turned(l)
					if len(turned) == 0 || impl.ForsIn(turned) != 0 {
						t.Fatalf("%s: %s", shortPlay(l), shortPlay(turned))
					}
					asked++
					checkSaysTheSame(t, l, turned, 0, 1, 60, 2000)
				}
			}
			if t.Failed() {
				return
			}
		}
	}
	if asked < 3000 {
		t.Errorf("only %d were asked", asked)
	}
}

// Where something other than Cells is made too often, it is so at the same place.
func TestTurnedEndsWithTooMuchAtTheSamePlace(t *testing.T) {
	for _, page := range []string{
		"(for i 0 250 (say i))", "(for i 0 20 (for j 0 20 (say (join i j))))", "(let f (fn (n) (say n) (for i 0 2 (run (call f (+ n 1)))))) (run (call f 1))", "(let n 0) (for i 0 1001 (do (run (fn ())) (if (< 990 i) (say i) (do))))", "(for i 0 1001 (do (run (thing)) (if (< 990 i) (say i) (do))))", "(for i 0 250 (do (if (< 190 i) (say i) (do)) (run (table))))", "(for i 0 250 (do (hidden p) (if (< 190 i) (say i) (do))))", "(let t (thing)) (for i 0 90 (do (if (< 50 i) (say i) (do)) (put t i i)))",
	} {
		l := signsOf(t, page)
		a, b := impl.Played(l, impl.MaxFuel), impl.Played(impl.Turned(l), impl.MaxFuel)
		if a.Fault != impl.FtMany || b.Fault != impl.FtMany || !slices.Equal(a.Said, b.Said) || len(a.Said) == 0 {
			t.Errorf("%s: %s; said again %s", page, showShow(a), showShow(b))
		}
		checkPromiseSixteen(t, l)
	}
}

// F and G have Cells of their own, and each turn has more Steps: there is no room
// or no fuel sooner, which is no end that says otherwise.
func TestTurnedMayComeToNoEnd(t *testing.T) {
	for _, c := range []struct{ page, words, again string }{
		{"(for i 0 1300 (if (= i 1000) (say i) (do))) (say 'z')", "1000/z end", "1000/z end"},
		{"(for i 0 1900 (if (= i 1000) (say i) (do))) (say 'z')", "1000/z end", "1000 fuel"},
		{"(for i 0 1900 (if (= i 1000) (say i) (do))) (say (+ 1 'z'))", "1000 kind", "1000 fuel"},
		{"(for i 0 3900 (do (if (= i 1000) (say i) (do)))) (say 'z')", "1000 fuel", "1000 fuel"},
		{"(for i 0 9999 (do))", "many", "fuel"},
		// Just as much room as there is for NAME, and for F and G beside it.
		{"(let f (fn (a b c d e f g h)) ) (let n 0) (while (< n 498) (do (set n (+ n 1)) (run (call f)))) (say n) (for i 0 10 (say i))", "498/0/1/2/3/4/5/6/7/8/9 end", "498/0/1/2/3/4/5/6/7/8/9 end"},
		{"(let f (fn (a b c d e f g h)) ) (let n 0) (while (< n 498) (do (set n (+ n 1)) (run (call f)))) (say n) (for i 0 14 (say i))", "498/0/1/2/3/4/5/6/7/8/9/10/11/12/13 end", "498/0/1/2/3/4/5/6/7/8/9/10/11 many"},
		{"(let f (fn (a b c d e f g h)) ) (let n 0) (while (< n 498) (do (set n (+ n 1)) (run (call f)))) (say n) (for i 0 15 (say i))", "498/0/1/2/3/4/5/6/7/8/9/10/11/12/13 many", "498/0/1/2/3/4/5/6/7/8/9/10/11 many"},
	} {
		l := signsOf(t, c.page)
		turned := impl.Turned(l)
		a, b := checkShow(t, l, impl.MaxFuel), checkShow(t, turned, impl.MaxFuel)
		if impl.Words(a) != c.words || impl.Words(b) != c.again {
			t.Errorf("%s: %s; said again %s", shortPlay(l), showShow(a), showShow(b))
		}
		checkPromiseSixteen(t, l)
	}
}

// Promise 21, for the functions of chapter 16, from here on.
func turnLists(t *testing.T) [][]string {
	lists := append(oldLists(t), madePlays(60)...)
	for _, c := range turnCases() {
		lists = append(lists, signsOf(t, c.page), signsOf(t, turnsPage(c.again)))
	}
	for _, page := range noTurns() {
		lists = append(lists, signsOf(t, page))
	}
	for _, signs := range []int{impl.MaxSigns - moreSigns, impl.MaxSigns - moreSigns + 1, impl.MaxSigns, impl.MaxSigns + 1} {
		lists = append(lists, filledUp("(for i 0 1 (do)) FILL", signs), filledUp("(for i 0 1 (do FILL))", signs), filledUp("FILL", signs))
	}
	for _, dos := range []int{55, 56, 58, 59} {
		lists = append(lists, within(dos, "( do", "( for i 0 1 ( do ) )", ")"))
	}
	return append(lists, nil, []string{}, []string{"A"}, []string{"(", "for", "i", "0", "1"}, []string{"(", "for", "i"}, []string{"(", "for"}, []string{"for"}, []string{"(", "for", ")"}, []string{"(", "for", "i", "0", "1", "(", ")", ")"})
}

func TestTurnedLeavesWhatIsGiven(t *testing.T) {
	for _, list := range turnLists(t) {
		l, room := roomy(list)
		was := slices.Clone(room)
		answer, count := impl.Turned(l), impl.ForsIn(l)
		kept := slices.Clone(answer)
		if !slices.Equal(room, was) {
			t.Fatalf("%s became %s", shortList(was), shortList(room))
		}
		overwritten(impl.Turned(l))
		if !slices.Equal(room, was) || !slices.Equal(answer, kept) {
			t.Fatalf("%s: an answer shares memory with another one, or with what was given", shortPlay(l))
		}
		overwritten(l)
		if !slices.Equal(answer, kept) {
			t.Fatalf("%s: %s became %s", shortPlay(list), shortPlay(kept), shortPlay(answer))
		}
		copy(room, was)
		overwritten(answer)
		if again := turnedOf(l); !sameTurned(again, turnAnswers{count, kept}) || !slices.Equal(room, was) {
			t.Fatalf("%s: %s, and again %s", shortPlay(l), shortPlay(kept), showTurned(again))
		}
	}
}

// What is asked again is answered again, whatever was asked between.
func TestTurnedKeepsNothing(t *testing.T) {
	cases := turnCases()
	for range 2 {
		for _, c := range cases {
			want := turnAnswers{c.count, signsOf(t, turnsPage(c.again))}
			if got := turnedOf(signsOf(t, c.page)); !sameTurned(got, want) {
				t.Fatalf("%s: %s; want %s", c.page, showTurned(got), showTurned(want))
			}
			checkNothingTurned(t, signsOf(t, c.page+" (say q0)"))
			checkTurnedAsItIs(t, signsOf(t, turnsPage(c.again)))
		}
		slices.Reverse(cases)
	}
}

// What stands in the spare room behind a play is no part of it: no for there is
// counted, and no name there is anybody's.
func TestTurnedDoesNotReadTheSpareRoom(t *testing.T) {
	whole := signsOf(t, "(say 1) (for i 0 1 (do)) (do (for v0 0 (fn () (for v1 0 2 (do))) (leave)))")
	for n := range len(whole) + 1 {
		checkTurned(t, whole[:n])
		checkTurned(t, slices.Clip(whole[:n]))
	}
	for _, c := range []struct {
		length int
		count  int64
	}{{0, 0}, {3, -1}, {4, 0}, {5, -1}, {12, -1}, {13, 1}, {14, -1}, {len(whole) - 1, -1}, {len(whole), 3}} {
		if got := impl.ForsIn(whole[:c.length]); got != c.count {
			t.Errorf("the first %d: %d", c.length, got)
		}
	}
	if got, want := impl.Turned(whole[:13]), signsOf(t, turnsPage("(say 1) [v0 v1 i: 0 | 1 | (do)]")); !slices.Equal(got, want) {
		t.Errorf("the first 13: %s", shortPlay(got))
	}
}

// A numberMethods is what the methods of the number types of a file are used as.
type numberMethods struct{ expression, value bool }

// numberMethodsOf looks for types whose values are numbers, for their methods, and
// for these where they are not called on the spot.
func numberMethodsOf(t *testing.T, path string) numberMethods {
	types, methods, called := map[string]bool{}, map[string]bool{}, map[ast.Expr]bool{}
	hasNode(t, path, func(n ast.Node) bool {
		if spec, is := n.(*ast.TypeSpec); is {
			of, is := spec.Type.(*ast.Ident)
			types[spec.Name.Name] = is && strings.Contains(of.Name, "int")
		}
		return false
	})
	hasNode(t, path, func(n ast.Node) bool {
		if f, is := n.(*ast.FuncDecl); is && f.Recv != nil {
			methods[f.Name.Name] = types[ownerOf(f.Recv.List[0].Type)]
		}
		return false
	})
	out := numberMethods{}
	hasNode(t, path, func(n ast.Node) bool {
		switch n := n.(type) {
		case *ast.CallExpr:
			called[n.Fun] = true
		case *ast.SelectorExpr:
			isType := types[ownerOf(n.X)]
			out.expression = out.expression || methods[n.Sel.Name] && isType
			out.value = out.value || methods[n.Sel.Name] && !isType && !called[n]
		}
		return false
	})
	return out
}

func ownerOf(e ast.Expr) string {
	switch e := e.(type) {
	case *ast.Ident:
		return e.Name
	case *ast.StarExpr:
		return ownerOf(e.X)
	case *ast.ParenExpr:
		return ownerOf(e.X)
	}
	return ""
}

// The line "turn" of the document's chapter Ways.
func TestNumbersAreATypeWithMethods(t *testing.T) {
	if got := numberMethodsOf(t, "../impl/l16_turn.go"); !got.expression || !got.value {
		t.Errorf("in the layer of the turns methods of numbers are method expressions: %v, method values: %v", got.expression, got.value)
	}
}
