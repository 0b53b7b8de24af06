package tests

import (
	"fmt"
	"go/ast"
	"slices"
	"strings"
	"testing"

	"loop.example/g00544/impl"
)

func wrappedOf(l []string) wrapAnswers {
	return wrapAnswers{impl.Captured(l), impl.LoopDos(l), impl.Wrapped(l)}
}

func sameWrapped(a wrapAnswers, b wrapAnswers) bool {
	return a.captured == b.captured && a.dos == b.dos && slices.Equal(a.said, b.said)
}

func showWrapped(a wrapAnswers) string {
	return fmt.Sprintf("%v, %d, %s", a.captured, a.dos, shortPlay(a.said))
}

// checkWrapped holds the program against the slow reading, and tells what it says.
func checkWrapped(t *testing.T, l []string) wrapAnswers {
	t.Helper()
	got := wrappedOf(l)
	if want := wrappedSlowly(l); !sameWrapped(got, want) {
		t.Errorf("%s: %s; read slowly %s", shortPlay(l), showWrapped(got), showWrapped(want))
	}
	return got
}

func checkNothingWrapped(t *testing.T, l []string) {
	t.Helper()
	if got := wrappedOf(l); got.captured || got.dos != -1 || len(got.said) > 0 {
		t.Errorf("%s: %s", shortPlay(l), showWrapped(got))
	}
}

func checkWrappedAsItIs(t *testing.T, l []string) {
	t.Helper()
	if got := checkWrapped(t, l); got.captured || got.dos < 0 || !slices.Equal(got.said, l) {
		t.Errorf("%s: %s", shortPlay(l), showWrapped(got))
	}
}

func TestWrapped(t *testing.T) {
	for _, c := range wrapCases() {
		l, again := signsOf(t, c.page), signsOf(t, c.againPage())
		got := checkWrapped(t, l)
		if want := (wrapAnswers{c.captured(), c.dos, again}); !sameWrapped(got, want) {
			t.Errorf("%s: %s; want %s", c.page, showWrapped(got), showWrapped(want))
		}
		for _, said := range [][]string{l, got.said} {
			if words := impl.Words(checkShow(t, said, impl.MaxFuel)); words != c.words {
				t.Errorf("%s says %q; want %q", shortPlay(said), words, c.words)
			}
		}
	}
}

func TestWrappedWhereNothingIsCaptured(t *testing.T) {
	checkWrappedAsItIs(t, nil)
	checkWrappedAsItIs(t, []string{})
	for _, page := range notWrapped() {
		checkWrappedAsItIs(t, signsOf(t, page))
	}
	for _, a := range arounds() {
		for _, deed := range newDeeds() {
			page, _ := deed.alone()
			checkWrappedAsItIs(t, signsOf(t, a.with(page)))
		}
	}
}

// keeps is a deed that makes the do it stands in a kept one; it stands for each
// KEEP of a page.
const keeps = "(let k (fn () (back k)))"

func keptPage(page string) string { return strings.ReplaceAll(page, "KEEP", keeps) }

func TestCapturedAndLoopDos(t *testing.T) {
	for _, c := range []struct {
		page     string
		captured bool
		dos      int64
	}{
		// Without a do, without a loop.
		{"", false, 0}, {"(say 1)", false, 0}, {"(say 'do')", false, 0}, {"(let dos 1)", false, 0}, {"(while 1 (leave))", false, 0}, {"(for i 0 1 (say i))", false, 0}, {"KEEP", false, 0}, {"(run (fn () KEEP))", false, 0}, {"(while 1 (run (fn () KEEP)))", false, 0},
		{"(do)", false, 0}, {"(do KEEP)", false, 0}, {"(do (do KEEP) (do KEEP (do)))", false, 0}, {"(if 1 (do KEEP) (do))", false, 0}, {"(run (fn () (do KEEP)))", false, 0}, {"(do (while 1 (leave)))", false, 0}, {"(do KEEP (while 1 (leave)))", false, 0}, {"(while 1 (leave)) (do KEEP)", false, 0}, {"(do KEEP) (for i 0 1 (say i))", false, 0},
		// In a loop: one, several beside each other and within each other.
		{"(while 1 (do))", false, 1}, {"(while 1 (do KEEP))", true, 1}, {"(for i 0 1 (do))", false, 1}, {"(for i 0 1 (do KEEP))", true, 1}, {"(while 1 (do (do) (do)))", false, 3}, {"(while 1 (do (do KEEP) (do)))", true, 3}, {"(while 1 (do (do) (do KEEP)))", true, 3}, {"(for i 0 1 (do (do (do (do)))))", false, 4}, {"(for i 0 1 (do (do (do (do KEEP)))))", true, 4}, {"(for i 0 1 (do KEEP (do (do (do)))))", true, 4}, {"(while 1 (if 1 (do) (do)))", false, 2}, {"(while 1 (if 1 (do) (do KEEP)))", true, 2}, {"(while 1 (do)) (for i 0 1 (do)) (do)", false, 2}, {"(while 1 (do)) (for i 0 1 (do KEEP)) (do)", true, 2}, {"(do (while 1 (do)) (do KEEP))", false, 1}, {"(do KEEP (while 1 (do)))", false, 1},
		// In loops within loops.
		{"(while 1 (while 1 (do)))", false, 1}, {"(while 1 (do (while 1 (do))))", false, 2}, {"(for i 0 1 (do (while 1 (do (for j 0 1 (do KEEP))))))", true, 3}, {"(for i 0 1 (for j 0 1 (for k 0 1 (do))))", false, 1},
		// In fns in loops, in loops in fns, in loops in fns in loops.
		{"(while 1 (run (fn () (do))))", false, 0}, {"(while 1 (run (fn () (do KEEP))))", false, 0}, {"(while 1 (do (run (fn () (do KEEP)))))", false, 1}, {"(while 1 (do (run (fn () (do (do KEEP) (do))))))", false, 1}, {"(run (fn () (while 1 (do))))", false, 1}, {"(run (fn () (while 1 (do KEEP))))", true, 1}, {"(while 1 (run (fn () (for i 0 1 (do)))))", false, 1}, {"(while 1 (run (fn () (for i 0 1 (do KEEP)))))", true, 1}, {"(while 1 (do (run (fn () (do (while 1 (do (run (fn () (do))))))))))", false, 2}, {"(while 1 (do (run (fn () (do KEEP (while 1 (do (run (fn () (do KEEP))))))))))", false, 2}, {"(while 1 (do (run (fn () (do (while 1 (do KEEP (run (fn () (do))))))))))", true, 2},
		// In the SUMs of loops, and of PARAMs.
		{"(while (fn () (do)) (leave))", false, 0}, {"(while (fn () (do KEEP)) (leave))", false, 0}, {"(for i (fn () (do KEEP)) (fn () (do KEEP)) (leave))", false, 0}, {"(while 1 (while (fn () (do KEEP)) (leave)))", false, 0}, {"(while (fn () (while 1 (do KEEP))) (leave))", true, 1}, {"(for i 0 (fn () (while 1 (do))) (do))", false, 2}, {"(while 1 (run (fn ((p (fn () (do KEEP)))))))", false, 0}, {"(run (fn ((p (fn () (while 1 (do KEEP)))))))", true, 1},
		// By the NAME of another one.
		{"(for i 0 3 (do (let x 1) (run (fn () (set x 2)))))", true, 1}, {"(while 1 (do (let x 1) (run (fn (x) (back x)))))", false, 1}, {"(for i 0 1 (do (run (fn () (back i)))))", false, 1}, {"(let x 1) (for i 0 1 (do (run (fn () (back x)))))", false, 1}, {"(for i 0 1 (do (let x 1) (run (fn () (hget x 1))) (hidden x)))", false, -1}, {"(for i 0 1 (do (let x 1) (run (fn () (back (hget x 1)))) (hidden x)))", false, 1},
		// Where it is not Scoped, whatever is in it.
		{"(say q)", false, -1}, {"(while 1 (do KEEP)) (say q)", false, -1}, {"(while 1 (do KEEP (set q 1)))", false, -1}, {"(while 1 (do KEEP KEEP))", false, -1}, {"(while 1 (do KEEP (vars a)))", false, -1}, {"(while 1 (do KEEP (hput k 1 2)))", false, -1}, {"(while 1 (do KEEP (run (fn () (leave)))))", false, -1}, {"(while 1 (do KEEP)) (next)", false, -1}, {"(while 1 (do KEEP (run (fn (a a)))))", false, -1}, {"(while 1 (do KEEP (hidden a a)))", false, -1}, {"(while 1 (do KEEP)) (say k)", false, -1},
		// What is no play.
		{"do", false, -1}, {"(do", false, -1}, {"(do))", false, -1}, {"(while 1)", false, -1}, {"(while 1 KEEP)", false, -1}, {"(while (do) (do))", false, -1}, {"(while 1 (do KEEP) (do))", false, -1}, {"(while 1 (do KEEP)", false, -1}, {"(while 1 (do KEEP)))", false, -1}, {"(while 1 (do (KEEP)))", false, -1}, {"(while 1 (do KEEP)) 5", false, -1}, {"((while 1 (do KEEP)))", false, -1}, {"(say (do KEEP))", false, -1}, {"(while 1 (do k KEEP))", false, -1}, {"(", false, -1}, {")", false, -1}, {"5", false, -1},
	} {
		l := signsOf(t, keptPage(c.page))
		if got := checkWrapped(t, l); got.captured != c.captured || got.dos != c.dos {
			t.Errorf("%s: %v, %d; want %v, %d", c.page, got.captured, got.dos, c.captured, c.dos)
		}
	}
}

// Of each thing that Scoped asks for, that one alone broken, beside and within
// such dos.
func TestWrappedOfWhatIsNotScoped(t *testing.T) {
	for _, broken := range slices.Concat(brokenPages(), []string{
		"(while 1 (do (let x 1) (run (fn () (back z)))))", "(while 1 (do (let x (fn () (back x))))) (say x)", "(while 1 (do (let x (fn () (back x))) (let x 2)))", "(while 1 (do (vars x) (run (fn () (back x)))))", "(while 1 (do (let x (fn () (leave)))))", "(while 1 (do (let x (fn (y y) (back x)))))", "(while 1 (do (take (x x) (fn () (back x)))))", "(while 1 (do (hidden x) (run (fn () (back x)))))", "(while 1 (do (let x (fn () (hput x 1 2)))))", "(while 1 (do (let x (fn () (back x))))) (leave)", "(while 1 (do (let x (fn ((y 1)) (vars z) (back x)))))",
	}) {
		for _, around := range []string{
			"BROKEN", "(while 1 (do KEEP)) BROKEN", "BROKEN (for b 0 1 (do KEEP))", "(do BROKEN (while 1 (do KEEP)))", "(run (fn () (while 1 (do KEEP)) BROKEN))", "(while 1 (do KEEP (run (fn () BROKEN))))", "(while 1 (do (let b (fn () (back b) BROKEN))))", "(while 1 (run (fn () (while 1 (do KEEP)) BROKEN)))",
		} {
			l := signsOf(t, keptPage(strings.ReplaceAll(around, "BROKEN", broken)))
			if !impl.PlayOk(l) || impl.Scoped(l) {
				t.Errorf("%s: the test itself is wrong", shortPlay(l))
			}
			checkNothingWrapped(t, l)
			checkWrapped(t, l)
		}
	}
}

func TestWrappedOfWhatIsNoPlay(t *testing.T) {
	play := signsOf(t, keptPage("(while 1 (do KEEP (run (fn ((c 1)) (for d 0 4 (do (let e d) (let f (fn () (back e))) (leave))) (back c))) (next)))"))
	for _, page := range []string{
		"a", "5", "'a'", "none", "+", "(", ")", "( )", "do", "while", "(+ 1 2)", "(while)", "(while 1)", "(while (do))", "(while 1 (do) (do))", "(while 1 ((do)))", "(while 1 ())", "(while 1 (do 5))", "(while 1 (do ()))", "(while 1 (let k (fn () (back k))))", "(while 1 (do KEEP)", "(while 1 (do KEEP)))", "(while 1 (do KEEP", "(while 1 (do", "(while 1", "(while", "(for i 0 1 (do KEEP)", "(while 1 (do (let k (fn (back k)))))", "(while 1 (do (let k (fn () back k))))", "(while 1 (do (let (k) (fn () (back k)))))", "(while 1 (do (take k (fn () (back k)))))", "(while 1 (do (take () (fn () (back k)))))",
		")(", "((do))", "(say (do))", "(run do)", "(set do 1)", "(let do 1)", "(take (do) 1)", "(hidden do)", "(vars do)", "(run (fn (do)))", "(run (fn ((do 1))))", "(run (hget do 1))", "(back)", "(leave 1)", "(next (do))", "(back 1 2)", "(say 1) 5",
	} {
		l := signsOf(t, keptPage(page))
		for _, list := range [][]string{l, slices.Concat(play, l), slices.Concat(l, play), slices.Concat([]string{"(", "do"}, play, l, []string{")"}), slices.Concat([]string{"(", "while", "1", "(", "do"}, l, play, []string{")", ")"})} {
			checkNothingWrapped(t, list)
		}
	}
	for _, bad := range wrongSigns() {
		for _, list := range [][]string{{bad}, slices.Concat(play, []string{bad}), slices.Concat([]string{bad}, play), signsWith("(while X (do (let k (fn () (back k)))))", bad), signsWith("(while 1 (X (let k (fn () (back k)))))", bad), signsWith("(while 1 (do (let X (fn () (back k)))))", bad), signsWith("(while 1 (do (let k (X () (back k)))))", bad), signsWith("(while 1 (do (let k (fn (X) (back k)))))", bad), signsWith("(while 1 (do (let k (fn () (back X)))))", bad), signsWith("(while 1 (do (let k (fn () (back k))) (X)))", bad), signsWith("(while 1 (do (let k (fn () (back k))) X))", bad)} {
			checkNothingWrapped(t, list)
		}
	}
	for _, l := range itemLists(t) {
		if len(l) > 0 && !impl.PlayOk(l) {
			checkNothingWrapped(t, l)
		}
	}
	for _, n := range []int{impl.MaxSigns, 100000} {
		for _, l := range [][]string{within(n, "(", "do", ")"), within(n, "( do", "", ""), within(n, "( do", "( let k ( fn ( ) ( back k ) ) )", ")"), within(n, "( while 1 ( do", "", ") )"), within(n, "( while 1", "", ""), within(n, "( while ( fn ( )", "", ") ( do ) )"), within(n, ")", "", "("), slices.Repeat([]string{"do"}, n), slices.Repeat([]string{"(", "do"}, n), slices.Repeat([]string{"(", "while", "1"}, n), slices.Repeat(play, n)} {
			checkNothingWrapped(t, l)
		}
	}
}

// Another sign at each place: other names, and words that make another form.
func TestWrappedWithOneSignChanged(t *testing.T) {
	t.Parallel()
	scoped, captured := 0, 0
	for n, c := range wrapCases() {
		l := signsOf(t, c.page)
		others := []string{"x", "y", "f", "i", "v0", "1", "do", "fn", "while", "run", "back", "A"}
		for at := range l {
			for m, other := range others {
				if (n+at+m)%3 != 0 {
					continue
				}
				changed := slices.Clone(l)
				changed[at] = other
				got := checkWrapped(t, changed)
				if got.dos >= 0 {
					scoped++
				}
				if got.captured {
					captured++
				}
			}
			if (n+at)%3 == 0 {
				checkWrapped(t, slices.Delete(slices.Clone(l), at, at+1))
			}
		}
		if t.Failed() {
			return
		}
	}
	if scoped < 2000 || captured < 1500 {
		t.Errorf("only %d were Scoped, %d Captured", scoped, captured)
	}
}

// freshOfWrapped are the F of those that are wrapped, in the order in which they
// begin: each stands in (let F (call (fn () as no other NAME of these plays does.
func freshOfWrapped(wrapped []string) []string {
	var out []string
	for at := range wrapped {
		if at > 1 && at+6 < len(wrapped) && wrapped[at-1] == "let" && slices.Equal(wrapped[at+1:at+7], []string{"(", "call", "(", "fn", "(", ")"}) {
			out = append(out, wrapped[at])
		}
	}
	return out
}

// F of each, in the order in which they begin: those of FreshMany, whoever has
// some of them already; a do that stays as it is has none.
func TestWrappedTakesTheFirstFreshNames(t *testing.T) {
	pages := []string{
		"(while 1 (do KEEP (say OWN) (while 1 (do KEEP)))) (for i 0 OWN (do KEEP))", "(while 1 (do (let OWN 1) (let k (fn () (back OWN))) (do KEEP) (for OWN 0 1 (do KEEP)))) (run (fn (OWN) (while 1 (do KEEP))))", "(while (fn () (while 1 (do KEEP))) (if OWN (do KEEP (do KEEP)) (do (let OWN 1) (do KEEP))))",
	}
	for _, page := range pages {
		for bits := range 1 << 5 {
			var own []string
			for n := range 5 {
				if bits>>n&1 == 1 {
					own = append(own, vNumber(int64(n)))
				}
			}
			own = append(own, "v9", "v00", "w0")
			l := signsOf(t, "(let "+strings.Join(own, " 1) (let ")+" 1) "+keptPage(strings.ReplaceAll(page, "OWN", own[bits%len(own)])))
			want := impl.FreshMany(l, 3)
			if got := freshOfWrapped(checkWrapped(t, l).said); !slices.Equal(got, want) || !slices.Equal(want, freshManySlowly(l, 3)) {
				t.Fatalf("%s: %q; want %q", shortPlay(l), got, want)
			}
		}
	}
}

// depthsOfWrapped have something DEEP, which is deeper in what is said again: the
// DEEDS by three, and the SUM of a back by one more.
func depthsOfWrapped() []depthOfGiven {
	return []depthOfGiven{
		{"DEEP", 0, 0, false}, {"(while 1 (do KEEP)) DEEP", 0, 0, false}, {"DEEP (while 1 (do KEEP))", 0, 0, false}, {"(do (while 1 (do KEEP)) DEEP)", 1, 1, false}, {"(while 1 (do DEEP (do KEEP)))", 2, 2, false}, {"(while (fn () DEEP) (do KEEP))", 2, 2, false}, {"(while 1 (do DEEP))", 2, 2, false}, {"(do KEEP DEEP)", 1, 1, false},
		{"(while 1 (do KEEP DEEP))", 2, 5, false}, {"(while 1 (do DEEP KEEP))", 2, 5, false}, {"(for i 0 1 (do KEEP (do DEEP)))", 3, 6, false}, {"(while 1 (do (do KEEP DEEP)))", 3, 6, false}, {"(while 1 (do KEEP (while 1 DEEP)))", 3, 6, false}, {"(while 1 (do KEEP (do KEEP DEEP)))", 3, 6, false}, {"(while 1 (do KEEP (while 1 (do KEEP DEEP))))", 4, 10, false}, {"(while 1 (do KEEP (while 1 (do KEEP (while 1 (do KEEP DEEP))))))", 6, 15, false}, {"(while 1 (do (let k (fn () (back k) DEEP))))", 4, 7, false}, {"(while 1 (do KEEP (run (fn () (while 1 (do KEEP DEEP))))))", 6, 12, false},
		{"(while 1 (do KEEP (say DEEP)))", 3, 6, true}, {"(while 1 (do KEEP (back DEEP)))", 3, 7, true}, {"(while 1 (do (let k DEEP) (run (fn () (back k)))))", 3, 6, true}, {"(while 1 (do KEEP (while 1 (back DEEP))))", 4, 8, true}, {"(while 1 (do KEEP (run (fn () (back DEEP)))))", 5, 8, true}, {"(while 1 (do KEEP (while DEEP (leave))))", 3, 6, true}, {"(while DEEP (do KEEP))", 1, 1, true}, {"(while 1 (do KEEP)) (back DEEP)", 1, 1, true}, {"(while 1 (do (back DEEP) (do KEEP)))", 3, 3, true}, {"(while 1 (do KEEP (while 1 (do KEEP (back DEEP)))))", 5, 12, true},
	}
}

func TestWrappedAtMaxDepth(t *testing.T) {
	t.Parallel()
	for _, d := range depthsOfWrapped() {
		d.page = keptPage(d.page)
		for deep := 43; deep <= impl.MaxDepth+2; deep++ {
			got := checkWrapped(t, d.with(t, deep))
			isPlay, saysIt := d.before+deep <= impl.MaxDepth, d.after+deep <= impl.MaxDepth
			if (got.dos >= 0) != isPlay || (len(got.said) > 0) != saysIt {
				t.Errorf("%s, %d deep: %s", d.page, deep, showWrapped(got))
			}
		}
	}
	// Of such a do the DEEDS are what is deepest, even those that are least deep.
	for _, c := range []struct {
		inside         string
		captured       bool
		isPlay, saysIt int
	}{
		{"( while 1 ( do ( let k ( fn ( ) ( back k ) ) ) ) )", true, 55, 52}, {"( while 1 ( do ( let k ( fn ( ( p k ) ) ) ) ) )", true, 54, 51}, {"( while 1 ( do ( let k 1 ) ( back ( fn ( ) ( back k ) ) ) ) )", true, 55, 51}, {"( while 1 ( do ( let k ( fn ( ) ( back k ) ) ) ( leave ) ) )", true, 55, 52}, {"( while 1 ( do ( let k ( fn ( ) ) ) ) )", false, 55, 55},
	} {
		for dos := range 60 {
			got := checkWrapped(t, within(dos, "( do", c.inside, ")"))
			if isPlay := dos <= c.isPlay; got.captured != (isPlay && c.captured) || (got.dos == 1) != isPlay || (len(got.said) > 0) != (dos <= c.saysIt) {
				t.Errorf("%s in %d dos: %s", c.inside, dos, showWrapped(got))
			}
		}
	}
}

// A do that is wrapped has so many more signs, and so has each way out of it.
const (
	signsOfWrap   = 61
	signsOfWayOut = 4
)

func TestWrappedAtMaxSigns(t *testing.T) {
	for _, c := range []struct {
		page       string
		wraps, out int
	}{
		{"FILL", 0, 0}, {"(while 1 (do FILL))", 0, 0}, {"(do KEEP FILL)", 0, 0}, {"(while 1 (do KEEP)) FILL", 1, 0}, {"FILL (while 1 (do KEEP))", 1, 0}, {"(while 1 (do KEEP FILL))", 1, 0}, {"(while 1 (do (let k (fn () FILL (back k)))))", 1, 0}, {"(while (fn () FILL) (do KEEP))", 1, 0}, {"(while 1 (do KEEP FILL (leave)))", 1, 1}, {"(while 1 (do KEEP FILL (if 1 (next) (back 1)) (do (leave))))", 1, 3}, {"(while 1 (do KEEP FILL (while 1 (if 1 (next) (back 1)))))", 1, 1}, {"(while 1 (do KEEP (do KEEP FILL)))", 1, 0}, {"(while 1 (do (do KEEP) (do KEEP FILL)))", 2, 0}, {"(while 1 (do KEEP)) (do (while 1 (do KEEP)) FILL) (while 1 (do KEEP))", 3, 0},
		// One within another: the way out of the inner one is one out of the outer one, too.
		{"(while 1 (do KEEP (while 1 (do KEEP FILL))))", 2, 1}, {"(while 1 (do KEEP (while 1 (do KEEP FILL (back 1)))))", 2, 2}, {"(while 1 (do KEEP (run (fn () (while 1 (do KEEP FILL))))))", 2, 0}, {"(while 1 (do KEEP (while 1 (do KEEP (while 1 (do KEEP FILL (leave)))))))", 3, 3},
	} {
		page, more := keptPage(c.page), signsOfWrap*c.wraps+signsOfWayOut*c.out
		for _, signs := range []int{250, impl.MaxSigns - more - 1, impl.MaxSigns - more, impl.MaxSigns - more + 1, impl.MaxSigns - 1, impl.MaxSigns, impl.MaxSigns + 1} {
			l := filledUp(page, signs)
			isPlay, saysIt := signs <= impl.MaxSigns, signs+more <= impl.MaxSigns
			got := wrappedOf(l)
			if len(l) != signs || got.captured != (isPlay && c.wraps > 0) || (got.dos >= 0) != isPlay || saysIt && len(got.said) != signs+more || !saysIt && len(got.said) > 0 {
				t.Errorf("%s with %d signs: %v, %d, %d signs", c.page, len(l), got.captured, got.dos, len(got.said))
			}
			if c.wraps == 0 && saysIt && !slices.Equal(got.said, l) {
				t.Errorf("%s with %d signs is not as it is", c.page, len(l))
			}
			if saysIt {
				checkWrapped(t, l)
			}
		}
	}
}

// As many as there may be: beside each other and within each other.
func TestWrappedOfMany(t *testing.T) {
	one := signsOf(t, keptPage("(while 1 (do KEEP))"))
	for n := range 102 {
		want := wrapAnswers{n > 0 && n <= 100, int64(n), nil}
		if (len(one)+signsOfWrap)*n <= impl.MaxSigns {
			for at := range n {
				want.said = append(want.said, signsOf(t, wrapsPage("(while 1 ["+vNumber(int64(at))+": "+keeps+"])"))...)
			}
		}
		if n > 100 {
			want.dos = -1
		}
		if got := wrappedOf(slices.Repeat(one, n)); !sameWrapped(got, want) {
			t.Errorf("%d beside each other: %v, %d, %d signs; want %v, %d, %d signs", n, got.captured, got.dos, len(got.said), want.captured, want.dos, len(want.said))
		}
	}
	said := 0
	for n := range 30 {
		for _, page := range []string{
			"( while 1 ( do ( let k ( fn ( ) ( back k ) ) )|( leave )|) )", "( while 1 ( do ( let k 1 )|( run ( fn ( ) ( back k ) ) )|) )", "( do ( let k 1 )|( run ( fn ( ) ( back k ) ) )|( say k ) )", "( do ( let k ( fn ( ) ( back k ) ) )|( back k )|( next ) )", "( run ( fn ( ) ( while 1 ( do ( let k ( fn ( )|( back k )|) ) ) ) ) )", "( for k k 2 ( do ( let k ( fn ( ) ( back k ) ) )|( say k )|( leave ) ) )", "( if k|( say k )|( do ( let k ( fn ( ) ( back k ) ) ) ( next ) ) )",
		} {
			parts := strings.Split(page, "|")
			l := slices.Concat([]string{"(", "let", "k", "1", ")", "(", "while", "1", "(", "do"}, within(n, parts[0], parts[1], parts[2]), []string{")", ")"})
			if got := checkWrapped(t, l); len(got.said) > 0 {
				said++
			}
		}
	}
	if said < 60 {
		t.Errorf("only %d of those within each other are said again", said)
	}
}

// checkNotCaptured asks that nothing is Captured in what Wrapped says, which it
// tells, and that nothing else of it is other than the chapter tells.
func checkNotCaptured(t *testing.T, l []string) []string {
	t.Helper()
	wrapped, captured := impl.Wrapped(l), impl.Captured(l)
	if !impl.Scoped(l) || !impl.Scoped(wrapped) || impl.Captured(wrapped) || captured == slices.Equal(wrapped, l) || !slices.Equal(impl.Wrapped(wrapped), wrapped) {
		t.Fatalf("%s: %s", shortPlay(l), shortPlay(wrapped))
	}
	more := func(head string) int64 { return impl.Count(wrapped, head) - impl.Count(l, head) }
	wraps, out := more("fn"), more("thing")
	if more("let") != wraps || more("call") != wraps || more("do") != wraps || more("if") != 3*wraps || more("get") != 3*wraps || more("=") != 3*wraps || int64(len(wrapped)-len(l)) != signsOfWrap*wraps+signsOfWayOut*out || (wraps > 0) != captured {
		t.Fatalf("%s: %s", shortPlay(l), shortPlay(wrapped))
	}
	wasNew := impl.NewIn(l)
	if captured && !slices.Contains(wasNew, "let") {
		wasNew = append(wasNew, "let")
	}
	if isNew := impl.NewIn(wrapped); !slices.Equal(isNew, wasNew) {
		t.Fatalf("%s: %q are new; want %q", shortPlay(wrapped), isNew, wasNew)
	}
	return wrapped
}

// checkPromiseSeventeen asks that Wrapped says the same, and that nothing is
// Captured any more; it tells with which Fault both end, with MaxFuel.
func checkPromiseSeventeen(t *testing.T, l []string) int64 {
	t.Helper()
	wrapped := checkNotCaptured(t, l)
	first, second := impl.Played(l, impl.MaxFuel), impl.Played(wrapped, impl.MaxFuel)
	checkSaysTheSame(t, l, wrapped, fuelsFor(first, second)...)
	if first.Fault == second.Fault && slices.Equal(first.Said, second.Said) {
		return first.Fault
	}
	// It has more Steps, calls, fns and things, so that it may come to no end where
	// the play comes to one.
	if impl.Ended(second) {
		t.Fatalf("%s: %s; said again %s", shortPlay(l), showShow(first), showShow(second))
	}
	return second.Fault
}

// Promise 17: Wrapped says the same, and nothing is Captured any more.
func TestWrappedSaysTheSame(t *testing.T) {
	for _, c := range wrapCases() {
		l := signsOf(t, c.page)
		checkPromiseSeventeen(t, l)
		// With each fuel, by both players.
		wrapped := impl.Wrapped(l)
		slow, slowWrapped := slowPlayOf(l), slowPlayOf(wrapped)
		for fuel := range min(impl.Played(wrapped, impl.MaxFuel).Steps, 200) + 3 {
			a, b := impl.Played(l, fuel), impl.Played(wrapped, fuel)
			if !impl.Alike(a, b) || !alikeSlowly(slow.played(fuel), slowWrapped.played(fuel)) {
				t.Fatalf("%s with fuel %d: %s; said again %s", c.page, fuel, showShow(a), showShow(b))
			}
		}
	}
	for _, page := range notWrapped() {
		checkPromiseSeventeen(t, signsOf(t, page))
	}
}

// A captor puts deeds of a play, each third one, into a do that is kept, in a loop
// of its own or in what is around, by one NAME after the other.
type captor struct{ count int }

var captorTrees = formTrees([]string{
	"(do (let NAME 1) (run (fn () (back NAME))) DEED)",
	"(for zi 0 2 (do (let NAME zi) (let zf (fn () (back NAME))) DEED (say (call zf))))",
	"(while 1 (do (let NAME 1) (let zf (fn () (set NAME (+ NAME 1)) (back NAME))) DEED (say (call zf)) (leave)))",
	"(do (let NAME 1) (do (let zx NAME) (run (fn () (back zx))) DEED))",
	"(for zi 0 2 (do (take (zx NAME) (thing 1 2)) (while (< zx 3) (do (let zy NAME) (run (fn () (back zy))) (set zx (+ zx 1)) DEED))))",
})

func (c *captor) all(list []tree) []tree {
	var out []tree
	for _, n := range list {
		out = append(out, c.one(n))
	}
	return out
}

func (c *captor) one(n tree) tree {
	inner := tree{n.sign, n.isList, c.all(n.within)}
	if !isRuled(n) {
		return inner
	}
	c.count++
	if c.count%3 != 0 {
		return inner
	}
	names := []string{"zk", "n0", "v0", "t1", "v2", "f0", "n1"}
	name := tree{sign: names[c.count/3%len(names)]}
	return filling{"NAME": {name}, "DEED": {inner}}.fill(captorTrees[c.count/3%len(captorTrees)])[0]
}

func manyCaptured(l []string) []string {
	c := &captor{}
	return signsOfTrees(c.all(blockOf(playTree(l))))
}

// turnedAhead is what the ways to say it again that come ahead of it make of a
// play; nothing where one of them says nothing.
func turnedAhead(l []string) []string {
	for _, pass := range []func([]string) []string{impl.Given, impl.Taken, impl.Unjoined, impl.Bared, impl.Turned} {
		l = pass(l)
	}
	return l
}

func TestWrappedOfMadePlaysSaysTheSame(t *testing.T) {
	t.Parallel()
	ends, captured, several := map[int64]int{}, 0, 0
	check := func(n int, l []string) {
		if !impl.Scoped(l) || len(impl.Wrapped(l)) == 0 {
			checkWrapped(t, l)
			return
		}
		if impl.Captured(l) {
			ends[checkPromiseSeventeen(t, l)]++
			captured++
		} else {
			checkNotCaptured(t, l)
		}
		if len(freshOfWrapped(impl.Wrapped(l))) > 3 {
			several++
		}
		if n%4 == 0 {
			checkWrapped(t, l)
		}
	}
	for n, l := range playsToAsk(t, 150) {
		many := manyCaptured(l)
		check(n, l)
		check(n, many)
		check(n, turnedAhead(l))
		if n%2 == 0 {
			check(n, turnedAhead(many))
		}
		// By few names, and by those that would be fresh.
		if impl.Scoped(many) && n%3 == 0 {
			a := alphaOf(many)
			check(n, a.crowded())
			check(n, a.called(func(n int) string { return vNumber(int64(n * 2)) }))
		}
	}
	for fault := range int64(6) {
		if ends[fault] < 2 {
			t.Errorf("only %d of %d end with %d", ends[fault], captured, fault)
		}
	}
	if captured < 600 || several < 150 {
		t.Errorf("only %d are Captured, %d have more than three", captured, several)
	}
}

// A tally is how many were asked, how many of these were Captured, and how they
// ended.
type tally struct {
	asked, captured int
	ends            map[int64]int
}

// ask is for plays that end: both say the same with some fuel and with MaxFuel, and
// each so many of them are read slowly, too.
func (c *tally) ask(t *testing.T, page string, each int) {
	t.Helper()
	l := signsOf(t, page)
	wrapped := checkNotCaptured(t, l)
	if c.asked++; c.asked%each == 0 {
		checkWrapped(t, l)
	}
	if !impl.Captured(l) {
		return
	}
	c.captured++
	checkSaysTheSame(t, l, wrapped, 0, 1, 40, 90, 200)
	c.ends[checkBothEnd(t, l, wrapped)]++
}

// wrapLoops have HERE as one deed in a loop, where i is a number; wrapDos are dos
// that are kept, with WAY as one deed in them.
func wrapLoops() []string {
	return []string{
		"(for i 0 3 HERE)", "(while (< i 3) (do (set i (+ i 1)) HERE))", "(for i 0 3 (do (say (& 'o' i)) HERE (say (& 'p' i))))", "(for i 0 3 (if (= i 1) (say 'e') HERE))", "(for i 0 3 (if (= i 1) HERE (do)))", "(for o 0 2 (for i 0 3 HERE))", "(for o 0 2 (do (let i o) (while (< i 3) (do (set i (+ i 1)) (do (do HERE)))) (say i)))", "(for o 0 2 (while (< i 5) (do (set i (+ i 1)) (let q o) (set g (fn () (back q))) HERE (say q))))",
	}
}

func wrapDos() []string {
	return []string{
		"(do (let x i) (let f (fn () (set x (+ x 1)) (back x))) (say (call f)) WAY (say (& 'w' x)))", "(do (take (x) (thing i)) (set g (fn () (back x))) WAY)", "(do WAY (let x i) (set g (fn () (back x))))", "(do (let x i) (do (let y x) (set g (fn () (back y))) WAY) (say 'd'))", "(do (let x i) (do (let y 5) (set g (fn () (back (join x y)))) (do WAY)) (say 'd'))", "(do (let x i) (for j 0 3 (do (let y j) (set g (fn () (back (join x y)))) WAY (say j))) (say 'd'))", "(do (let x i) (say x) (for j 0 2 (do (let y j) (set g (fn () (back y))) WAY)) (say 'd'))", "(do (let x (fn () (back x))) (while 1 (do WAY (leave))) (if 1 WAY (do)))", "(do (let x i) (set g (fn () (for j 0 2 (do (let y x) (set h (fn () (back y))) WAY)) (back x))) (say (call g)) WAY)",
	}
}

// back, leave and next in each place of each such do.
func TestWrappedOfEachWayOut(t *testing.T) {
	t.Parallel()
	ways := []string{
		"(do)", "(leave)", "(next)", "(back i)", "(back none)", "(back (thing 2))", "(back (fn () (back i)))", "(do (do (leave)))", "(do (say 'n') (next) (say 'no'))", "(if (= i 1) (leave) (do))", "(if (= i 1) (do) (next))", "(if (= i 2) (back (join 'b' i)) (do))", "(while 1 (leave))", "(while 1 (back i))", "(for q 0 3 (if (= q 1) (next) (leave)))", "(for q 0 2 (if (= q i) (back q) (say q)))", "(while 1 (do (if (= i 1) (back 'b') (leave))))", "(run (call (fn () (back 1))))", "(run (call (fn () (for q 0 2 (if q (leave) (next))))))", "(say (call (fn () (while 1 (back i)))))",
		"(do (let z i) (set h (fn () (back z))) (if (= z 1) (leave) (next)))", "(while 1 (do (let z i) (set h (fn () (back z))) (if (= z 1) (leave) (back z))))", "(for q 0 2 (do (let z q) (set h (fn () (back z))) (if (= z i) (next) (do)) (say (join q i))))", "(say (+ i none))", "(back " + over + ")", "(if (= i 2) (say (tget (table) (thing))) (do))",
	}
	arounds := []string{"HERE", "(say (= none (call (fn () HERE (back 'e')))))", "(let e (fn (n) HERE (say n))) (for a 0 2 (do (run (call e a)) (say (& 'a' a))))"}
	c := &tally{ends: map[int64]int{}}
	for n, loop := range wrapLoops() {
		for m, do := range wrapDos() {
			for k, way := range ways {
				inside := strings.ReplaceAll(loop, "HERE", strings.ReplaceAll(do, "WAY", way))
				around := arounds[(n+m+k)%len(arounds)]
				c.ask(t, "(let i 0) (let g none) (let h none) "+strings.ReplaceAll(around, "HERE", inside)+" (if (= g none) (do) (say (call g))) (say i)", 7)
			}
		}
	}
	if c.asked < 1800 || c.captured != c.asked || c.ends[impl.FtNone] < 1500 || c.ends[impl.FtKind] < 80 || c.ends[impl.FtOver] < 50 || c.ends[impl.FtKey] < 20 {
		t.Errorf("%+v", c)
	}
}

// x, declared in each way, used in each way, with each thing in between.
func TestWrappedOfEachUse(t *testing.T) {
	t.Parallel()
	declared := []string{"(let x i)", "(take (w x) (thing 7 i))", "(let w 7) (let x i) (let y 8)", "(hidden x) (hput x u i)", "(let y i)", ""}
	uses := []string{
		"(fn () (back x))", "(fn () (set x 5) (back 1))", "(fn ((p x)) (back p))", "(fn (p (q (call (fn () (back x))))) (back q))", "(fn () (back (call (fn () (back x)))))", "(fn () (do (if 1 (while 1 (back x)) (do))))", "(fn () (for q 0 x (say q)))", "(fn () (put u 0 x) (tput m u x) (back (get u 0)))", "(fn () (hput x u 4) (back (hget x u)))", "(fn () (hput x u x) (back 2))", "(fn () (back i))", "(fn () (back 3))",
		"(fn (x) (back x))", "(fn ((x 3)) (back x))", "(fn ((x x)) (back x))", "(fn () (let x 2) (back x))", "(fn () (back x) (take (x) (thing 2)))", "(fn () (vars x) (set x 6) (back x))", "(fn () (do (let x 2) (back x)))", "(fn () (do (let x 2) (say x)) (back x))", "(fn () (for x 0 9 (back x)))", "(fn () (for x x 9 (back x)))", "(fn (x) (back (call (fn () (back x)))))", "(fn () (hidden x) (hput x u x) (back (hget x u)))",
	}
	between := []string{
		"HERE", "(do HERE)", "(do (let x 8) HERE)", "(do (take (x) (thing 8)) HERE)", "(do (let y x) HERE)", "(do (let y x) (set h (fn () (back y))) HERE)", "(do (let y 3) (set h (fn () (back y))) HERE)", "(do (let y 3) (set h (fn () (back y)))) HERE", "(for x 4 6 HERE)", "(for y 4 6 HERE)", "(if (= x none) (say 'e') HERE)", "(while (< n 3) (do (set n (+ n 1)) HERE))", "(run (call (fn () HERE)))", "(run (call (fn (x) HERE) 9))", "(do (hidden x) (hput x u 2) HERE)",
	}
	c := &tally{ends: map[int64]int{}}
	for n, first := range declared {
		for m, use := range uses {
			for k, around := range between {
				inside := "(do (set g " + use + ") (say (call g)))"
				if (n+m+k)%2 == 0 {
					inside = "(set g " + use + ")"
				}
				page := "(hidden x) (let x 5) (let i 0) (let n 0) (let g none) (let h none) (let m (table)) (let u (thing)) (hput x u 1) (for i 0 2 (do " + first + " " + strings.ReplaceAll(around, "HERE", inside) + " (say (join x i))))"
				c.ask(t, page+" (if (= g none) (do) (say (call g))) (if (= h none) (do) (say (call h)))", 2)
			}
		}
	}
	if c.asked < 2000 || c.captured < 700 || c.captured > 1500 || c.ends[impl.FtNone] < 600 {
		t.Errorf("%+v", c)
	}
}

// Whatever stands within whatever stands within whatever.
func TestWrappedWithinOneAnother(t *testing.T) {
	t.Parallel()
	arounds := []string{
		"(while (< a 3) (do (set a (+ a 1)) HERE))", "(for a 0 2 (do (let b a) (set g (fn () (set b (+ b 1)) (back b))) HERE (say (join a b))))", "(do (let a b) HERE)", "(do (let a b) (set g (fn () (back a))) HERE)", "(for c 0 3 (do (take (a) (thing c)) (if (= c 1) (next) (do)) HERE (set g (fn () (back a))) (if (= c 2) (leave) (say 'f'))))", "(if b HERE (say 'e'))", "(say (call (fn (b) HERE (back a)) 2))", "(do (let f (fn () (for b 0 2 (do (let a b) (set g (fn () (back a))) HERE)))) (run (call f)) (run (call f)))", "(while 1 (do (let b 3) HERE (leave)))", "(for b a (+ a 2) HERE)",
	}
	insides := []string{"(say (join a b))", "(back a)", "(set a (+ b 1))", "(if (< b 2) (next) (leave))", "(do (let x a) (set g (fn () (set x (+ x b)) (back x))) (say (call g)))", "(for k 0 2 (do (let x k) (set g (fn () (back (join x a)))) (if (= k 1) (leave) (next))))", "(set g (fn () (set a 1) (back b)))"}
	put := func(around string, inside string) string { return strings.ReplaceAll(around, "HERE", inside) }
	asked, captured := 0, 0
	for o, outer := range arounds {
		for _, middle := range arounds {
			for n, inner := range arounds {
				for m, inside := range insides {
					if (o+n+m)%2 == 0 {
						continue
					}
					l := signsOf(t, "(let b 1) (let a 1) (let g none) (do "+put(outer, put(middle, put(inner, inside)))+") (say (join a b))")
					if !impl.Scoped(l) {
						continue
					}
					if (n+m)%7 == 0 {
						checkWrapped(t, l)
					}
					asked++
					if wrapped := checkNotCaptured(t, l); impl.Captured(l) {
						captured++
						checkSaysTheSame(t, l, wrapped, 0, 1, 60, 2000)
					}
				}
			}
		}
	}
	if asked < 2800 || captured < 2000 {
		t.Errorf("only %d were asked, %d Captured", asked, captured)
	}
}

// The call, the fn and the thing of a way out make too much at once sooner, which
// is no end that says otherwise; so does it need more fuel.
func TestWrappedMayComeToNoEnd(t *testing.T) {
	const ahead = "(let x i) (let f (fn () (back x))) "
	for _, c := range []struct{ page, words, again string }{
		{"(for i 0 300 (do " + ahead + "(if (= i 290) (say i) (do)))) (say 'z')", "290/z end", "290/z end"},
		// Two fns each turn.
		{"(for i 0 600 (do " + ahead + "(if (= i 400) (say i) (do)))) (say 'z')", "400/z end", "400 many"},
		{"(for i 0 600 (do " + ahead + "(if (= i 400) (say i) (do)))) (say (+ 1 'z'))", "400 kind", "400 many"},
		// One thing each turn.
		{"(let t none) (for i 0 450 (do " + ahead + "(set t (thing)) (set t (thing)) (if (= i 300) (say i) (do)) (next))) (say 'z')", "300/z end", "300 many"},
		// One call within another.
		{"(let g (fn (n) (if (< 36 n) (say n) (do)) (for i 0 1 (do " + ahead + "(if (< n 40) (run (call g (+ n 1))) (do)))))) (run (call g 1)) (say 'z')", "37/38/39/40/z end", "many"},
		{"(let g (fn (n) (if (< 17 n) (say n) (do)) (if (< n 38) (run (call g (+ n 1))) (do)))) (for i 0 1 (do " + ahead + "(run (call g 1)))) (say 'z')", "18/19/20/21/22/23/24/25/26/27/28/29/30/31/32/33/34/35/36/37/38/z end", "18/19/20/21/22/23/24/25/26/27/28/29/30/31/32/33/34/35/36/37/38/z end"},
		{"(let g (fn (n) (if (< 37 n) (say n) (do)) (if (< n 40) (run (call g (+ n 1))) (do)))) (for i 0 1 (do " + ahead + "(run (call g 1)))) (say 'z')", "38/39/40/z end", "38/39 many"},
		// More Steps each turn.
		{"(let n 0) (let f none) (while (< n 900) (do (set n (+ n 1)) (if (= n 700) (say n) (do)) (if (< n 2) (do (let x n) (set f (fn () (back x))) (leave)) (next)))) (say (call f))", "1 end", "1 end"},
		{"(let n 0) (while (< n 850) (do (let x n) (set n (+ x 1)) (if (= n 400) (say n) (do)) (if (= n 2000) (run (fn () (back x))) (do)))) (say 'z')", "400/z end", "400 fuel"},
	} {
		l := signsOf(t, c.page)
		wrapped := impl.Wrapped(l)
		a, b := checkShow(t, l, impl.MaxFuel), checkShow(t, wrapped, impl.MaxFuel)
		if !impl.Captured(l) || impl.Words(a) != c.words || impl.Words(b) != c.again {
			t.Errorf("%s: %s; said again %s", shortPlay(l), showShow(a), showShow(b))
		}
		checkPromiseSeventeen(t, l)
	}
}

// Promise 21, for the functions of chapter 17, from here on.
func wrapLists(t *testing.T) [][]string {
	lists := append(oldLists(t), madePlays(60)...)
	for _, c := range wrapCases() {
		lists = append(lists, signsOf(t, c.page), signsOf(t, c.againPage()))
	}
	for _, page := range notWrapped() {
		lists = append(lists, signsOf(t, page))
	}
	for _, signs := range []int{impl.MaxSigns - signsOfWrap, impl.MaxSigns - signsOfWrap + 1, impl.MaxSigns, impl.MaxSigns + 1} {
		lists = append(lists, filledUp(keptPage("(while 1 (do KEEP)) FILL"), signs), filledUp(keptPage("(while 1 (do KEEP FILL))"), signs), filledUp("FILL", signs))
	}
	for _, dos := range []int{52, 53, 55, 56} {
		lists = append(lists, within(dos, "( do", "( while 1 ( do ( let k ( fn ( ) ( back k ) ) ) ) )", ")"))
	}
	return append(lists, nil, []string{}, []string{"A"}, []string{"(", "while", "1", "(", "do"}, []string{"(", "do"}, []string{"do"}, []string{"(", "do", ")"}, []string{"(", "while", "1", "(", ")", ")"}, []string{"(", "back"}, []string{"(", "leave"}, []string{"(", "while", "1", "(", "leave"})
}

func TestWrappedLeavesWhatIsGiven(t *testing.T) {
	for _, list := range wrapLists(t) {
		l, room := roomy(list)
		was := slices.Clone(room)
		answer, captured, dos := impl.Wrapped(l), impl.Captured(l), impl.LoopDos(l)
		kept := slices.Clone(answer)
		if !slices.Equal(room, was) {
			t.Fatalf("%s became %s", shortList(was), shortList(room))
		}
		overwritten(impl.Wrapped(l))
		if !slices.Equal(room, was) || !slices.Equal(answer, kept) {
			t.Fatalf("%s: an answer shares memory with another one, or with what was given", shortPlay(l))
		}
		overwritten(l)
		if !slices.Equal(answer, kept) {
			t.Fatalf("%s: %s became %s", shortPlay(list), shortPlay(kept), shortPlay(answer))
		}
		copy(room, was)
		overwritten(answer)
		if again := wrappedOf(l); !sameWrapped(again, wrapAnswers{captured, dos, kept}) || !slices.Equal(room, was) {
			t.Fatalf("%s: %s, and again %s", shortPlay(l), shortPlay(kept), showWrapped(again))
		}
	}
}

// What is asked again is answered again, whatever was asked between.
func TestWrappedKeepsNothing(t *testing.T) {
	cases := wrapCases()
	for range 2 {
		for _, c := range cases {
			want := wrapAnswers{c.captured(), c.dos, signsOf(t, c.againPage())}
			if got := wrappedOf(signsOf(t, c.page)); !sameWrapped(got, want) {
				t.Fatalf("%s: %s; want %s", c.page, showWrapped(got), showWrapped(want))
			}
			checkNothingWrapped(t, signsOf(t, c.page+" (say q0)"))
			if again := impl.Wrapped(want.said); !slices.Equal(again, want.said) {
				t.Fatalf("%s: once more %s", shortPlay(want.said), shortPlay(again))
			}
		}
		slices.Reverse(cases)
	}
}

// What stands in the spare room behind a play is no part of it: no do there is
// counted, and no name there is anybody's.
func TestWrappedDoesNotReadTheSpareRoom(t *testing.T) {
	whole := signsOf(t, keptPage("(say 1) (while 1 (do KEEP)) (for v0 0 2 (do (let v1 v0) (run (fn () (set v1 2))) (while 1 (do KEEP))))"))
	for n := range len(whole) + 1 {
		checkWrapped(t, whole[:n])
		checkWrapped(t, slices.Clip(whole[:n]))
	}
	for _, c := range []struct {
		length   int
		captured bool
		dos      int64
	}{{0, false, 0}, {3, false, -1}, {4, false, 0}, {5, false, -1}, {23, false, -1}, {24, true, 1}, {25, false, -1}, {len(whole) - 1, false, -1}, {len(whole), true, 3}} {
		if got := wrappedOf(whole[:c.length]); got.captured != c.captured || got.dos != c.dos {
			t.Errorf("the first %d: %s", c.length, showWrapped(got))
		}
	}
	if got, want := impl.Wrapped(whole[:24]), signsOf(t, wrapsPage("(say 1) (while 1 [v0: "+keeps+"])")); !slices.Equal(got, want) {
		t.Errorf("the first 24: %s", shortPlay(got))
	}
}

// interfaceMethods are the interfaces that a file declares, with the names of
// their methods.
func interfaceMethods(t *testing.T, path string) map[string][]string {
	out := map[string][]string{}
	hasNode(t, path, func(n ast.Node) bool {
		spec, is := n.(*ast.TypeSpec)
		if !is {
			return false
		}
		if of, is := spec.Type.(*ast.InterfaceType); is {
			for _, method := range of.Methods.List {
				for _, name := range method.Names {
					out[spec.Name.Name] = append(out[spec.Name.Name], name.Name)
				}
			}
		}
		return false
	})
	return out
}

// The line "wrap" of the document's chapter Ways.
func TestWaysOutStandBehindAnInterface(t *testing.T) {
	const path = "../impl/l17_wrap.go"
	interfaces := interfaceMethods(t, path)
	// takes asks for a function that takes one of them, and in which there is such
	// a node.
	takes := func(of string, is func(ast.Node) bool) bool {
		return hasNode(t, path, func(n ast.Node) bool {
			f, isFunc := n.(*ast.FuncDecl)
			if !isFunc || !slices.ContainsFunc(f.Type.Params.List, func(p *ast.Field) bool { return ownerOf(p.Type) == of }) {
				return false
			}
			found := false
			ast.Inspect(f, func(n ast.Node) bool {
				found = found || n != nil && is(n)
				return true
			})
			return found
		})
	}
	asserted, called := false, false
	for of, methods := range interfaces {
		asserted = asserted || takes(of, func(n ast.Node) bool {
			a, is := n.(*ast.TypeAssertExpr)
			return is && a.Type != nil && ownerOf(a.Type) != of && len(interfaces[ownerOf(a.Type)]) > 0
		})
		called = called || takes(of, func(n ast.Node) bool {
			call, is := n.(*ast.CallExpr)
			if !is {
				return false
			}
			method, is := call.Fun.(*ast.SelectorExpr)
			return is && slices.Contains(methods, method.Sel.Name)
		})
	}
	if len(interfaces) < 2 || !asserted || !called {
		t.Errorf("in the layer of what is wrapped there are %d interfaces; one is asserted to be another one: %v; one's method is called: %v", len(interfaces), asserted, called)
	}
}
