package tests

import (
	"fmt"
	"go/ast"
	"go/token"
	"slices"
	"strconv"
	"strings"
	"testing"

	"loop.example/g00544/impl"
)

func baredOf(l []string) baredAnswers { return baredAnswers{impl.HiddenIn(l), impl.Bared(l)} }

func sameBared(a baredAnswers, b baredAnswers) bool {
	return slices.Equal(a.hidden, b.hidden) && slices.Equal(a.said, b.said)
}

func showBared(a baredAnswers) string {
	return fmt.Sprintf("%s, %s", shortList(a.hidden), shortPlay(a.said))
}

// checkBared holds the program against the slow reading, and tells what it says.
func checkBared(t *testing.T, l []string) baredAnswers {
	t.Helper()
	got := baredOf(l)
	if want := baredSlowly(l); !sameBared(got, want) {
		t.Errorf("%s: %s; read slowly %s", shortPlay(l), showBared(got), showBared(want))
	}
	return got
}

func checkNothingBared(t *testing.T, l []string) {
	t.Helper()
	if got := baredOf(l); len(got.hidden) > 0 || len(got.said) > 0 {
		t.Errorf("%s: %s", shortPlay(l), showBared(got))
	}
}

func checkBaredAsItIs(t *testing.T, l []string) {
	t.Helper()
	if got := baredOf(l); len(got.hidden) > 0 || !slices.Equal(got.said, l) {
		t.Errorf("%s: %s", shortPlay(l), showBared(got))
	}
}

func TestBared(t *testing.T) {
	for _, c := range bareCases() {
		l, again := signsOf(t, c.page), signsOf(t, tablesPage(c.again))
		got := checkBared(t, l)
		if !slices.Equal(got.said, again) {
			t.Errorf("%s: %s; want %s", c.page, shortPlay(got.said), impl.ShowSigns(again))
		}
		if !slices.Equal(got.hidden, strings.Fields(c.hidden)) {
			t.Errorf("%s: %q are hidden; want %q", c.page, got.hidden, c.hidden)
		}
		for _, said := range [][]string{l, got.said} {
			if words := impl.Words(checkShow(t, said, impl.MaxFuel)); words != c.words {
				t.Errorf("%s says %q; want %q", shortPlay(said), words, c.words)
			}
		}
	}
}

func TestBaredWhereNothingIsHidden(t *testing.T) {
	checkBaredAsItIs(t, nil)
	checkBaredAsItIs(t, []string{})
	for _, page := range nothingHidden() {
		checkBaredAsItIs(t, signsOf(t, page))
		checkBared(t, signsOf(t, page))
	}
	for _, a := range arounds() {
		for _, deed := range newDeeds() {
			page, isNew := deed.alone()
			l := signsOf(t, a.with(page))
			if !strings.Contains(a.adds+isNew, "hidden") {
				checkBaredAsItIs(t, l)
			}
			checkBared(t, l)
		}
	}
}

func TestHiddenIn(t *testing.T) {
	for _, c := range []struct{ page, want string }{
		{"", ""}, {"(say 1)", ""}, {"(say 'hidden')", ""}, {"(let hiddens 1)", ""}, {"(let a (table))", ""}, {"(vars p q)", ""}, {"(hidden)", ""}, {"(hidden) (do (hidden)) (hidden)", ""},
		{"(hidden p)", "p"}, {"(hidden p q r)", "p q r"}, {"(hidden r q p)", "r q p"}, {"(say 1) (hidden p) (say 2)", "p"}, {"(vars a) (hidden b)", "b"}, {"(hidden abcdefgh a hiddens)", "abcdefgh a hiddens"},
		// Beside each other.
		{"(hidden p) (hidden q)", "p q"}, {"(hidden q) (hidden) (hidden p r)", "q p r"}, {"(do (hidden p)) (do (hidden p))", "p p"}, {"(do (hidden q p)) (hidden q) (do (hidden p q))", "q p q p q"}, {"(run (thing (fn () (hidden p)) 1 (fn () (hidden q)) (fn () (hidden p))))", "p q p"},
		// Within each other, whichever begins first.
		{"(hidden p) (do (hidden q) (do (hidden p)))", "p q p"}, {"(do (do (hidden p)) (hidden q)) (hidden r)", "p q r"}, {"(do (hidden a) (do (hidden b) (run (fn ((x (fn () (hidden c)))) (hidden d)))) (hidden e)) (hidden f)", "a b c d e f"}, {"(hidden p) (run (fn () (hidden p) (run (fn () (hidden p) (hidden)))))", "p p p"},
		// In whatever stands around.
		{"(if (fn () (hidden a)) (do (hidden b)) (do (hidden c)))", "a b c"}, {"(while (fn () (hidden a)) (do (hidden b)))", "a b"}, {"(for i (fn () (hidden a)) (fn () (hidden b)) (do (hidden c)))", "a b c"}, {"(run (call (fn () (hidden a)) (fn () (hidden b))))", "a b"}, {"(let a (fn () (hidden z))) (set a (fn () (hidden y))) (take (b) (fn () (hidden x))) (back (join (fn () (hidden w))))", "z y x w"}, {"(hidden p) (hput p (fn () (hidden q)) (fn () (hidden r))) (run (hget p (fn () (hidden s))))", "p q r s"}, {"(put (fn () (hidden a)) (fn () (hidden b)) (fn () (hidden c)))", "a b c"}, {"(tput (fn () (hidden a)) (fn () (hidden b)) (fn () (hidden c)))", "a b c"},
		// Whatever else bears the NAME, or uses it.
		{"(hidden p) (let p 1) (say p) (run (hget p p)) (hput p p p)", "p"}, {"(run (fn (p q) (hidden q) (run (hget q p))))", "q"}, {"(run (hget p 1)) (hput p 1 2) (hidden p)", "p"}, {"(hidden v0 v1)", "v0 v1"},
		// Where it is not Scoped, whatever is hidden in it.
		{"(hidden p) (say q)", ""}, {"(hidden p) (say p)", ""}, {"(hidden p p)", ""}, {"(hidden p) (do) (hidden p)", ""}, {"(hidden p) (vars a)", ""}, {"(hidden p) (leave)", ""}, {"(hidden p) (hput q 1 2)", ""}, {"(do (hidden p)) (run (hget p 1))", ""}, {"(run (fn ((x (hget p 1))) (hidden p)))", ""}, {"(hidden p) (run (fn (x x)))", ""},
		// What is no play.
		{"hidden", ""}, {"(hidden p", ""}, {"(hidden p))", ""}, {"(hidden (p))", ""}, {"(hidden 5)", ""}, {"(hidden p 5)", ""}, {"(hidden none)", ""}, {"(hidden hidden)", ""}, {"(hidden let)", ""}, {"(hidden 'p')", ""}, {"(hidden p) 5", ""}, {"(say (hidden p))", ""}, {"(if 1 (hidden p) (do))", ""}, {"(if 1 (do) (hidden p))", ""}, {"(while 1 (hidden p))", ""}, {"(for i 0 1 (hidden p))", ""}, {"((hidden p))", ""}, {"(hidden p) (hget p 1)", ""}, {"(hidden p) (run (hput p 1 2))", ""}, {"(hidden p) (run (hget p))", ""}, {"(hidden p) (hput p 1)", ""}, {"(", ""}, {")", ""}, {"5", ""},
	} {
		if got := impl.HiddenIn(signsOf(t, c.page)); !slices.Equal(got, strings.Fields(c.want)) {
			t.Errorf("%s: %q; want %q", c.page, got, c.want)
		}
		checkBared(t, signsOf(t, c.page))
	}
}

// Of each thing that Scoped asks for, that one alone broken, beside and within
// what is hidden.
func TestBaredOfWhatIsNotScoped(t *testing.T) {
	for _, broken := range slices.Concat(brokenPages(), []string{
		"(hidden z) (say z)", "(let z 1) (run (hget z 1))", "(do (hidden z)) (run (hget z 1))", "(run (fn () (hidden z))) (hput z 1 2)", "(run (fn ((x (hget z 1))) (hidden z)))", "(hidden z y z)", "(do (hidden z) (do) (hidden y z))", "(run (fn () (hidden z) (vars x)))", "(run (fn () (hidden z) (hidden z)))", "(do (hidden z) (vars x))", "(run (hget v0 1))", "(hidden z) (hput y z 1)", "(hidden z) (run (hget z z))",
	}) {
		for _, page := range []string{
			broken, "(hidden b) " + broken, broken + " (do (hidden b c))", "(do " + broken + " (do (hidden b) (hput b 1 2)))", "(run (fn () (hidden b) " + broken + "))", "(hidden b) (hput b 1 (fn () " + broken + "))", "(hidden) " + broken,
		} {
			l := signsOf(t, page)
			if !impl.PlayOk(l) || impl.Scoped(l) {
				t.Errorf("%s: the test itself is wrong", page)
			}
			checkNothingBared(t, l)
			checkBared(t, l)
		}
	}
}

func TestBaredOfWhatIsNoPlay(t *testing.T) {
	play := signsOf(t, "(do (hidden b) (hput b (thing) (fn ((c 1)) (hidden d) (run (hget b c)))))")
	for _, page := range []string{
		"a", "5", "'a'", "none", "+", "(", ")", "( )", "hidden", "hget", "(+ 1 2)", "(table)", "(hget p 1)", "(hidden (p))", "(hidden 5)", "(hidden 'p')", "(hidden none)", "(hidden hidden)", "(hidden hget)", "(hidden p 1)", "(hidden p (q))", "((hidden p))", "(hidden p", "(hidden p))", "(hidden", "(do (hidden p)", "(do (hidden p)))", ")(", "(hput)", "(hput p)", "(hput p 1)", "(hput p 1 2 3)", "(hput 1 p 2)", "(hput (p) 1 2)", "(run (hget))", "(run (hget p))", "(run (hget p 1 2))", "(run (hget 1 p))", "(run (hget p (do)))", "(run (hput p 1 2))", "(hidden p) (hget p 1)",
		"(say (hidden p))", "(run hidden)", "(set hidden 1)", "(let hidden 1)", "(take (hidden) 1)", "(vars hidden)", "(run (fn (hidden)))", "(run (fn ((hidden 1))))", "(for hidden 0 1 (do))", "(if 1 (hidden p) (do))", "(if 1 (do) (hidden p))", "(while 1 (hidden p))", "(for i 0 1 (hidden p))", "(say 1) 5", "(hidden p) p",
	} {
		l := signsOf(t, page)
		for _, list := range [][]string{l, slices.Concat(play, l), slices.Concat(l, play), slices.Concat([]string{"(", "do"}, play, l, []string{")"})} {
			checkNothingBared(t, list)
		}
	}
	for _, bad := range wrongSigns() {
		for _, list := range [][]string{{bad}, slices.Concat(play, []string{bad}), slices.Concat([]string{bad}, play), signsWith("(hidden X)", bad), signsWith("(hidden p X)", bad), signsWith("(hidden X p)", bad), signsWith("(X p)", bad), signsWith("(hidden p) (hput X 1 2)", bad), signsWith("(hidden p) (hput p X 2)", bad), signsWith("(hidden p) (run (hget X 1))", bad), signsWith("(hidden p) (run (hget p X))", bad), signsWith("(hidden p) (say X)", bad)} {
			checkNothingBared(t, list)
		}
	}
	for _, l := range itemLists(t) {
		if len(l) > 0 && !impl.PlayOk(l) {
			checkNothingBared(t, l)
		}
	}
	for _, n := range []int{impl.MaxSigns, 100000} {
		for _, l := range [][]string{within(n, "(", "hidden", ")"), within(n, "(", "", ""), within(n, "( hidden", "", ")"), within(n, "( hidden p", "", ")"), within(n, "( do ( hidden p )", "", ")"), within(n, "( run ( fn ( ) ( hidden p )", "", ") )"), within(n, "( run ( hget p", "1", ") )"), within(n, ")", "", "("), slices.Repeat([]string{"hidden"}, n), slices.Repeat([]string{"(", "hidden"}, n), slices.Repeat([]string{"(", "hidden", ")"}, n), slices.Concat([]string{"(", "hidden"}, manyOf(n, nameOfPlace), []string{")"}), slices.Repeat(play, n)} {
			checkNothingBared(t, l)
		}
	}
}

// Another sign at each place: other names, and words that make another form.
func TestBaredWithOneSignChanged(t *testing.T) {
	scoped := 0
	for _, c := range bareCases() {
		l := signsOf(t, c.page)
		for at := range l {
			for _, other := range []string{"p", "q", "t", "v0", "1", "hidden", "hget", "do", "vars", "thing"} {
				changed := slices.Clone(l)
				changed[at] = other
				checkBared(t, changed)
				if impl.Scoped(changed) {
					scoped++
				}
			}
			checkBared(t, slices.Delete(slices.Clone(l), at, at+1))
		}
		if t.Failed() {
			return
		}
	}
	if scoped < 2000 {
		t.Errorf("only %d were Scoped", scoped)
	}
}

// F of each NAME, in the order in which they stand there: those of FreshMany,
// whoever has some of them already.
func TestBaredTakesTheFirstFreshNames(t *testing.T) {
	pages := []string{
		"(do (hidden a b) (do (hidden a)) (run (hget a OWN))) (hidden OWN c)", "(hidden a) (run (fn ((x (fn () (hidden OWN b)))) (do (hidden b)) (hidden OWN)))", "(for i 0 1 (do (do (hidden a)) (hidden OWN) (hput OWN i OWN))) (do (hidden a) (hidden b))",
	}
	for _, page := range pages {
		for bits := range 1 << 6 {
			var own []string
			for n := range 6 {
				if bits>>n&1 == 1 {
					own = append(own, vNumber(int64(n)))
				}
			}
			own = append(own, "v12", "v00", "w0")
			l := signsOf(t, "(let "+strings.Join(own, " 1) (let ")+" 1) "+strings.ReplaceAll(page, "OWN", own[bits%len(own)]))
			got := checkBared(t, l)
			count := int64(len(got.hidden))
			want := impl.FreshMany(l, count)
			var is []string
			for at, sign := range got.said {
				if sign == "let" && got.said[at+3] == "table" {
					is = append(is, got.said[at+1])
				}
			}
			slices.Sort(is)
			if slices.Sort(want); !slices.Equal(is, want) || count < 4 {
				t.Fatalf("%s: %q; want %q", shortPlay(l), is, want)
			}
		}
	}
}

func TestBaredAtMaxDepth(t *testing.T) {
	// What stands around it is as deep as it was.
	for _, d := range []depthOfTaken{
		{"DEEP", 0, false}, {"(hidden p) DEEP", 0, false}, {"DEEP (hidden p)", 0, false}, {"(do (hidden p q) DEEP)", 1, false}, {"(hidden p) (run (hget p (fn () DEEP)))", 3, false}, {"(run (fn ((x (fn () (hidden p) DEEP))) (hidden p)))", 5, false}, {"(hidden p) (do (hidden p)) (do (do DEEP))", 2, false}, {"(while 1 (do (hidden p) (hput p 1 (fn () DEEP))))", 4, false},
		{"(hidden p) (run (hget p DEEP))", 2, true}, {"(hidden p) (hput p DEEP 1)", 1, true}, {"(hidden p) (hput p 1 DEEP)", 1, true}, {"(do (hidden p) (hput p (hget p DEEP) (hget p 1)))", 3, true}, {"(run DEEP) (hidden p)", 1, true}, {"(run (fn ((x DEEP)) (hidden p)))", 4, true},
	} {
		for deep := 50; deep <= impl.MaxDepth+2; deep++ {
			got := checkBared(t, d.with(t, deep))
			if is := d.before+deep <= impl.MaxDepth; (len(got.said) > 0) != is || len(got.hidden) > 0 && !is {
				t.Errorf("%s, %d deep: %s", d.page, deep, showBared(got))
			}
		}
	}
	// The table of a NAME is one deeper than the hidden is; one without a NAME goes.
	for _, c := range []struct {
		inside         string
		names          int
		isPlay, saysIt int
	}{
		{"( hidden p )", 1, 59, 58}, {"( hidden p q )", 2, 59, 58}, {"( say 1 ) ( hidden p )", 1, 59, 58}, {"( hidden )", 0, 59, 59}, {"( hidden p ) ( hput p 1 2 )", 1, 59, 58}, {"( hidden p ) ( run ( hget p 1 ) )", 1, 58, 58}, {"( hidden p ) ( run ( fn ( ) ) )", 1, 57, 57}, {"( run ( fn ( ) ( hidden p ) ) )", 1, 57, 56}, {"( run ( fn ( ) ( hidden ) ) )", 0, 57, 57}, {"( run ( fn ( ( x ( fn ( ) ( hidden p ) ) ) ) ) )", 1, 54, 53},
	} {
		for dos := range 62 {
			l := within(dos, "( do", c.inside, ")")
			got := checkBared(t, l)
			isPlay, saysIt := dos <= c.isPlay, dos <= c.saysIt && (dos > 0 || c.inside != "( hidden )")
			if impl.Scoped(l) != isPlay || isPlay && len(got.hidden) != c.names || !isPlay && len(got.hidden) > 0 || (len(got.said) > 0) != saysIt {
				t.Errorf("%s in %d dos: %s", c.inside, dos, showBared(got))
			}
		}
	}
}

func TestBaredAtMaxSigns(t *testing.T) {
	for _, c := range []struct {
		page           string
		hiddens, names int
	}{
		{"FILL", 0, 0}, {"(run (fn (x) FILL))", 0, 0}, {"(hidden) FILL", 1, 0}, {"FILL (hidden) (do (hidden))", 2, 0}, {"(hidden p) FILL", 1, 1}, {"FILL (hidden p)", 1, 1}, {"(hidden p q) FILL", 1, 2}, {"(hidden p) (hidden q) FILL (hput p 1 2) (run (hget q 3))", 2, 2}, {"(hidden p q r) (do (hidden p) FILL) (hidden s)", 3, 5}, {"(hidden p) FILL (hidden)", 2, 1},
		{"(hidden p) (hput p 1 (fn () (hidden q) (run (hget q (fn () (hidden r s) FILL)))))", 3, 4}, {"(run (fn ((x (fn () (hidden p)))) FILL (hidden q)))", 2, 2}, {"(for i 0 1 (do (hidden p q) FILL)) (while 1 (do (hidden p q)))", 2, 4}, {"(vars a) (hidden p) FILL", 1, 1},
	} {
		// Each NAME has 6 signs more, and each hidden 3 less.
		more := 6*c.names - 3*c.hiddens
		for _, signs := range []int{150, impl.MaxSigns - more - 1, impl.MaxSigns - more, impl.MaxSigns - more + 1, impl.MaxSigns - 1, impl.MaxSigns, impl.MaxSigns + 1} {
			l := filledUp(c.page, signs)
			names := c.names
			if signs > impl.MaxSigns {
				names = 0
			}
			got, saysIt := baredOf(l), signs <= impl.MaxSigns && signs+more <= impl.MaxSigns
			if len(l) != signs || len(got.hidden) != names || saysIt && len(got.said) != signs+more || !saysIt && len(got.said) > 0 {
				t.Errorf("%s with %d signs: %q, %d signs", c.page, len(l), got.hidden, len(got.said))
			}
			if c.hiddens == 0 && saysIt && !slices.Equal(got.said, l) {
				t.Errorf("%s with %d signs is not as it is", c.page, len(l))
			}
			if saysIt {
				checkBared(t, l)
			}
		}
	}
}

// As many as there may be: NAMEs of one hidden, hiddens beside each other in one
// block and each in a block of its own, and hiddens within each other.
func TestBaredOfMany(t *testing.T) {
	tables := func(count int) []string {
		var out []string
		for n := range count {
			out = append(out, "(", "let", vNumber(int64(n)), "(", "table", ")", ")")
		}
		return out
	}
	for _, n := range []int{0, 1, 2, 9, 10, 11, 199, 200, 201, 284, 285, 286, 300, 499, 500, 501, 1996, 1997, 1998} {
		names := manyOf(n, nameOfPlace)
		apart := []string{}
		for _, name := range names {
			apart = append(apart, "(", "hidden", name, ")")
		}
		for _, l := range [][]string{slices.Concat([]string{"(", "hidden"}, names, []string{")"}), apart} {
			want := baredAnswers{hidden: names, said: tables(n)}
			if 7*n > impl.MaxSigns {
				want.said = nil
			}
			if len(l) > impl.MaxSigns {
				want.hidden = nil
			}
			if got := baredOf(l); !sameBared(got, want) {
				t.Errorf("%d NAMEs, %d signs: %d NAMEs, %d signs", n, len(l), len(got.hidden), len(got.said))
			}
		}
	}
	one := signsOf(t, "(do (hidden p))")
	for n := range 288 {
		want := baredAnswers{hidden: slices.Repeat([]string{"p"}, n)}
		if 10*n <= impl.MaxSigns {
			for at := range n {
				want.said = append(want.said, "(", "do", "(", "let", vNumber(int64(at)), "(", "table", ")", ")", ")")
			}
		}
		if 7*n > impl.MaxSigns {
			want.hidden = nil
		}
		if got := baredOf(slices.Repeat(one, n)); !sameBared(got, want) {
			t.Errorf("%d in blocks of their own: %d NAMEs, %d signs", n, len(got.hidden), len(got.said))
		}
	}
	said := 0
	for n := range 60 {
		for _, page := range []string{"( do ( hidden p )|( hput p 1 2 )|)", "( do|( hput p 1 2 )|( run ( hget p 1 ) ) ( hidden p ) )", "( do ( hidden p ) ( hput p 1 2 )|( say 1 )|( hput p 3 4 ) )", "( run ( fn ( ) ( hidden p q )|( hput q 1 2 )|( hput p 1 2 ) ) )", "( hput p 1 ( fn ( ) ( hidden p )|( hput p 1 2 )|) )"} {
			parts := strings.Split(page, "|")
			l := slices.Concat([]string{"(", "hidden", "p", ")", "(", "do"}, within(n, parts[0], parts[1], parts[2]), []string{")", "(", "hput", "p", "5", "6", ")"})
			if got := checkBared(t, l); len(got.said) > 0 {
				said++
			}
		}
	}
	if said < 150 {
		t.Errorf("only %d of those within each other are said again", said)
	}
}

// hasNamelessHidden asks for a (hidden), which is a Step that goes.
func hasNamelessHidden(l []string) bool {
	return slices.ContainsFunc(manyOf(len(l), func(n int64) bool { return l[n] == "hidden" && l[n+1] == ")" }), func(is bool) bool { return is })
}

// checkPromiseFifteen asks that Bared says the same, and that nothing is hidden
// any more; it tells with which Fault both end, with MaxFuel.
func checkPromiseFifteen(t *testing.T, l []string) int64 {
	t.Helper()
	bared := impl.Bared(l)
	hiddens, names := impl.Count(l, "hidden"), int64(len(impl.HiddenIn(l)))
	if !impl.Scoped(bared) || len(impl.HiddenIn(bared)) > 0 || int64(len(bared)) != int64(len(l))+6*names-3*hiddens {
		t.Fatalf("%s: %s", shortPlay(l), shortPlay(bared))
	}
	for _, word := range []string{"hidden", "hget", "hput"} {
		if slices.Contains(bared, word) {
			t.Fatalf("%s: %s", shortPlay(l), shortPlay(bared))
		}
	}
	wasNew := slices.DeleteFunc(impl.NewIn(l), func(word string) bool {
		return slices.Contains([]string{"hidden", "hget", "hput", "let"}, word)
	})
	if names > 0 || impl.Count(l, "let") > 0 {
		wasNew = append(wasNew, "let")
	}
	if isNew := impl.NewIn(bared); !slices.Equal(isNew, wasNew) {
		t.Fatalf("%s: %q are new; want %q", shortPlay(bared), isNew, wasNew)
	}
	if again := impl.Bared(bared); !slices.Equal(again, bared) || hiddens == 0 != slices.Equal(bared, l) {
		t.Fatalf("%s: %s, and once more %s", shortPlay(l), shortPlay(bared), shortPlay(again))
	}
	first, second := impl.Played(l, impl.MaxFuel), impl.Played(bared, impl.MaxFuel)
	checkSaysTheSame(t, l, bared, fuelsFor(first, second)...)
	if first.Fault == second.Fault && slices.Equal(first.Said, second.Said) {
		return first.Fault
	}
	// It has more Steps and more Cells, so that it may come to no end where the
	// play comes to one; where a hidden has no NAME, it has fewer Steps.
	if impl.Ended(second) && !hasNamelessHidden(l) {
		t.Fatalf("%s: %s; said again %s", shortPlay(l), showShow(first), showShow(second))
	}
	return second.Fault
}

// Promise 15: Bared says the same, and nothing is hidden any more.
func TestBaredSaysTheSame(t *testing.T) {
	for _, c := range bareCases() {
		l := signsOf(t, c.page)
		checkPromiseFifteen(t, l)
		// With each fuel, by both players.
		bared := impl.Bared(l)
		slow, slowBared := slowPlayOf(l), slowPlayOf(bared)
		for fuel := range min(impl.Played(bared, impl.MaxFuel).Steps, 400) + 3 {
			a, b := impl.Played(l, fuel), impl.Played(bared, fuel)
			if !impl.Alike(a, b) || !alikeSlowly(slow.played(fuel), slowBared.played(fuel)) {
				t.Fatalf("%s with fuel %d: %s; said again %s", c.page, fuel, showShow(a), showShow(b))
			}
		}
	}
	for _, page := range nothingHidden() {
		checkPromiseFifteen(t, signsOf(t, page))
	}
}

// A hider has each block of a play hide something of its own, at one place after
// the other, and all that is said go by way of that.
type hider struct{ count int }

func (h *hider) next(most int) int {
	h.count++
	return h.count % most
}

func (h *hider) block(deeds []tree, hidden tree) []tree {
	first := 0
	if len(deeds) > 0 && deeds[0].head() == "vars" {
		first = 1
	}
	return slices.Insert(h.all(deeds), first+h.next(len(deeds)-first+1), hidden)
}

func (h *hider) all(list []tree) []tree {
	var out []tree
	for _, n := range list {
		out = append(out, h.one(n))
	}
	return out
}

func (h *hider) one(n tree) tree {
	name := []tree{{sign: "zh" + strconv.Itoa(h.next(2))}}
	switch n.head() {
	case "say":
		return filling{"H": name, "SUM": h.all(n.within[1:])}.fill(sayHiddenTree)[0]
	case "do", "fn":
		deeds := blockOf(n)
		ahead := n.within[:len(n.within)-len(deeds)]
		hidden := formTree([]string{"(hidden zh0)", "(hidden zh1 zh0)", "(hidden zh1)", "(hidden)"}[h.next(4)])
		return tree{n.sign, n.isList, slices.Concat(h.all(ahead), h.block(deeds, hidden))}
	}
	return tree{n.sign, n.isList, h.all(n.within)}
}

var (
	sayHiddenTree = formTree("(do (hput H zt SUM) (say (hget H zt)))")
	zThingTree    = formTree("(let zt (thing))")
)

func manyHidden(l []string) []string {
	h := &hider{}
	deeds := blockOf(playTree(l))
	block := h.block(deeds, formTree("(hidden zh0 zh1)"))
	first := 0
	if len(deeds) > 0 && deeds[0].head() == "vars" {
		first = 1
	}
	return signsOfTrees(slices.Insert(block, first, zThingTree))
}

func TestBaredOfMadePlaysSaysTheSame(t *testing.T) {
	t.Parallel()
	ends, hidden, several := map[int64]int{}, 0, 0
	check := func(n int, l []string) {
		if !impl.Scoped(l) || len(impl.Bared(l)) == 0 {
			checkBared(t, l)
			return
		}
		fault := checkPromiseFifteen(t, l)
		count := len(impl.HiddenIn(l))
		if count > 0 {
			ends[fault]++
			hidden++
		}
		if count > 3 {
			several++
		}
		if n%3 == 0 {
			checkBared(t, l)
		}
	}
	for n, l := range append(playsToAsk(t, 100), signsOf(t, "(do (hidden p)) (while 1 (do))"), signsOf(t, "(say 1) (while 1 (do (hidden)))")) {
		check(n, l)
		many := manyHidden(l)
		check(n, many)
		if !impl.Scoped(many) {
			continue
		}
		if a, b := impl.Played(l, impl.MaxFuel), impl.Played(impl.Bared(many), impl.MaxFuel); len(impl.Bared(many)) > 0 && !impl.Alike(a, b) {
			t.Fatalf("%s: %s; by way of what is hidden %s: %s", shortPlay(l), showShow(a), shortPlay(many), showShow(b))
		}
		// By few names, and by those that would be fresh.
		a := alphaOf(many)
		check(n, a.crowded())
		check(n, a.called(func(n int) string { return vNumber(int64(n * 2)) }))
	}
	for fault := range int64(6) {
		if ends[fault] < 3 {
			t.Errorf("only %d of %d end with %d", ends[fault], hidden, fault)
		}
	}
	if hidden < 1000 || several < 500 {
		t.Errorf("only %d have hiddens, %d more than three", hidden, several)
	}
}

// hiddenArounds have HERE as deeds of a block that is come into, with a thing t.
func hiddenArounds() []string {
	return []string{
		"HERE", "(do HERE) (say 'z')", "(if 1 (do HERE) (say 'e'))", "(if 0 (say 'e') (do HERE))", "(for i 0 2 (do (say i) HERE))", "(let n 0) (while (< n 2) (do (set n (+ n 1)) HERE (say n)))", "(while 1 (do (do HERE) (leave)))", "(say (call (fn () HERE (back 'k'))))", "(run (call (fn (x) (vars y) HERE) 1))", "(run (call (fn ((x t)) HERE)))", "(run (call (fn (w (x (call (fn () HERE (back 3))))) (say x))))", "(let g (fn () HERE)) (run (call g)) (run (call g))", "(hidden p) (hput p t 9) (do HERE) (say (hget p t))", "(do HERE) (hput p t 8) (say (hget p t)) (hidden p)", "(do (hidden p q) (hput p t 7)) (do HERE) (do (hidden p) (say (hget p t)))", "(hidden p) (hput p t (call (fn () HERE (back 6)))) (say (hget p (call (fn () HERE (back t)))))", "(let p (call (fn (p) HERE (back p)) 5)) (say p)",
	}
}

// Each place where a hidden may stand among the deeds that use it.
func TestBaredOfAHiddenAtEachPlace(t *testing.T) {
	uses := [][]string{
		{"(hput p t 1)", "(say (hget p t))", "(hput p t (+ 1 (hget p t)))", "(say (hget p t))"}, {"(say (hget p t))", "(hput p t 1)"}, {"(hput p t 1)", "(say (hget p (thing)))"}, {"(hput p 5 1)"}, {"(let f (fn () (back (hget p t))))", "(hput p t 4)", "(say (call f))"}, {"(hput p t 1)", "(do (hput p t 2) (say (hget p t)))", "(say (hget p t))"}, {"(let p t)", "(hput p p 1)", "(say (hget p p))"}, {"(do)", "(say 'd')"}, {},
	}
	asked, ends := 0, map[int64]int{}
	for _, around := range hiddenArounds() {
		for _, deeds := range uses {
			for at := range len(deeds) + 1 {
				for _, hidden := range []string{"(hidden p)", "(hidden q p)", "(hidden p) (hidden) (hidden q)", "(hidden v1 p v0)"} {
					inside := strings.Join(slices.Insert(slices.Clone(deeds), at, hidden), " ")
					for _, page := range []string{"(let t (thing)) (do " + strings.ReplaceAll(around, "HERE", inside) + ")", "(vars t v0) (set t (thing)) (run (call (fn () " + strings.ReplaceAll(around, "HERE", inside) + ")))"} {
						l := signsOf(t, page)
						bared := impl.Bared(l)
						if !impl.Scoped(l) || len(impl.HiddenIn(l)) == 0 || len(bared) == 0 || len(impl.HiddenIn(bared)) > 0 {
							t.Fatalf("%s: %s", shortPlay(l), shortPlay(bared))
						}
						if asked++; asked%5 == 0 {
							checkBared(t, l)
						}
						checkSaysTheSame(t, l, bared, 0, 1, 9, 23)
						ends[checkBothEnd(t, l, bared)]++
					}
				}
			}
		}
	}
	if asked < 2500 || ends[impl.FtNone] < 800 || ends[impl.FtKind] < 200 || ends[impl.FtKey] < 300 {
		t.Errorf("%d were asked: %v", asked, ends)
	}
}

// checkBothEnd is for plays that end: both say the same with MaxFuel.
func checkBothEnd(t *testing.T, l []string, again []string) int64 {
	t.Helper()
	a, b := impl.Played(l, impl.MaxFuel), impl.Played(again, impl.MaxFuel)
	if a.Fault != b.Fault || !slices.Equal(a.Said, b.Said) || !impl.Alike(a, b) {
		t.Fatalf("%s: %s; said again %s: %s", shortPlay(l), showShow(a), shortPlay(again), showShow(b))
	}
	return a.Fault
}

// Each kind of SUM of an hget and an hput, where something was put and where
// nothing was.
func TestBaredOfEachKindOfSum(t *testing.T) {
	things := []string{
		"t", "u", "(thing)", "5", "'a'", "none", "(fn ())", "(table)", "(+ 1 none)", over, "(tget (table) t)", "(hget p t)", "(hget q t)", "(hget p (hget q u))", "(call (fn () (say 's') (back t)))", "(call (fn () (say 's')))", "(call (fn () (hidden p) (hput p t u) (back (hget p t))))", "(call (fn () (hput p t 5) (back t)))",
	}
	values := []string{"1", "none", "t", "(hget p t)", "(hget q u)", over, "(call (fn () (say 'w') (back 3)))", "(call (fn () (back (hget p t)) (hidden p)))", "(fn () (back (hget p t)))"}
	aheads := []string{"", "(hput p t u) ", "(hput p t t) (hput q u t) ", "(hput p u 5) (hput q t u) (hput p t none) "}
	asked, ends := 0, map[int64]int{}
	for _, ahead := range aheads {
		for _, thing := range things {
			for _, value := range values {
				for _, inside := range []string{"(hput p " + thing + " " + value + ") (say 'x') (say (= (hget p t) none)) (say (hget p t))", "(say (hget q " + thing + ")) (hput q t " + value + ") (say (hget q t))"} {
					l := signsOf(t, "(let t (thing)) (let u (thing)) (hidden p q) "+ahead+inside)
					bared := impl.Bared(l)
					if !impl.Scoped(l) || len(bared) == 0 || len(impl.HiddenIn(bared)) > 0 {
						t.Fatalf("%s: %s", shortPlay(l), shortPlay(bared))
					}
					asked++
					checkSaysTheSame(t, l, bared, 0, 1, 12, 31)
					ends[checkBothEnd(t, l, bared)]++
				}
			}
		}
	}
	if asked < 1000 || ends[impl.FtNone] < 50 || ends[impl.FtKind] < 300 || ends[impl.FtOver] < 50 || ends[impl.FtKey] < 200 {
		t.Errorf("%d were asked: %v", asked, ends)
	}
}

// A fn that has something hidden, and what asks for it, in each place where a sum
// may stand.
func TestBaredInEachPlace(t *testing.T) {
	sums := []string{
		"(call (fn () (hidden zp) (hput zp zt 'ab') (back (hget zp zt))))", "(call (fn () (back (hget zp zt)) (hput zp zt 1) (hidden zp)))", "(fn () (hidden zp) (run (hget zp zt)))", "(fn () (hidden zp) (hidden zq))", "(call (fn ((zx (hget zo zt))) (hidden zo) (hput zo zt zx) (say (hget zo zt)) (back (hget zo zt))))", "(call (fn () (vars zx) (hidden zo) (set zx 'ab') (hput zo zt zx) (back (hget zo zt))))", "(hget zo zt)", "(hget zo (call (fn () (hidden zp) (hput zo zt 2) (back zt))))", "(call (fn () (hidden) (back 'ab')))",
	}
	ends := map[int64]int{}
	for _, place := range joinPlaces() {
		for _, sum := range sums {
			l := signsOf(t, "(let zt (thing)) (hput zo zt 'a') "+strings.ReplaceAll(place.page, "HERE", sum)+" (hidden zo)")
			if len(impl.HiddenIn(l)) == 0 {
				t.Fatalf("%s: the test itself is wrong", shortPlay(l))
			}
			checkBared(t, l)
			ends[checkPromiseFifteen(t, l)]++
		}
	}
	if ends[impl.FtNone] < 200 || ends[impl.FtKind] < 100 || ends[impl.FtKey] < 30 {
		t.Errorf("%v", ends)
	}
}

// Whatever stands within whatever stands within whatever.
func TestBaredWithinOneAnother(t *testing.T) {
	t.Parallel()
	arounds := []string{
		"(do (hidden p) (hput p t (+ n 10)) HERE (say (hget p t)))", "(do HERE (hput p t n) (say (hget p t)) (hidden p))", "(if n (do (hidden q) (hput q t (hget p t)) HERE (say (hget q t))) (say 'e'))", "(for n 1 3 (do (hidden p) (hput p t n) HERE (say (hget p t))))", "(while (< n 3) (do (set n (+ n 1)) HERE (hput q t n) (hidden q) (say 'w')))", "(say (call (fn (p) (hidden p) (hput p t p) HERE (back (hget p t))) (hget p t)))", "(hput p t (call (fn () HERE (back (hget q t)))))", "(run (call (fn ((d (call (fn () (hidden q) (hput q t 4) HERE (back (hget q t)))))) (hidden p) (hput p t d) HERE)))", "(do (let f (fn (x) (vars y) (hput q t x) HERE (hidden q))) (run (call f 3)) (run (call f 2)))", "(do HERE)",
	}
	insides := []string{"(say (join (hget p t) (hget q t)))", "(back (hget p t))", "(hput p t (+ 1 (hget q t)))", "(do (hput q t 5) (say (hget q t)) (hidden q p))", "(if (< n 3) (next) (leave))", "(run (call (fn (g) (run (call g)) (hidden p) (hput p t 1) (run (call g))) (fn () (hput p t (+ 1 (hget p t))))))"}
	put := func(around string, inside string) string { return strings.ReplaceAll(around, "HERE", inside) }
	asked := 0
	for _, outer := range arounds {
		for _, middle := range arounds {
			for n, inner := range arounds {
				for m, inside := range insides {
					l := signsOf(t, "(let n 1) (let t (thing)) (hidden p q) (hput p t 1) (hput q t 2) (do "+put(outer, put(middle, put(inner, inside)))+") (say (join (hget p t) (hget q t)))")
					if !impl.Scoped(l) {
						continue
					}
					if (n+m)%5 == 0 {
						checkBared(t, l)
					}
					bared := impl.Bared(l)
					if len(bared) == 0 || len(impl.HiddenIn(bared)) > 0 {
						t.Fatalf("%s: %s", shortPlay(l), shortPlay(bared))
					}
					asked++
					checkSaysTheSame(t, l, bared, 0, 1, 60, 3000)
				}
			}
			if t.Failed() {
				return
			}
		}
	}
	if asked < 5000 {
		t.Errorf("only %d were asked", asked)
	}
}

// Where something other than Cells is made too often, it is so at the same place.
func TestBaredEndsWithTooMuchAtTheSamePlace(t *testing.T) {
	for _, page := range []string{
		"(let n 0) (while 1 (do (hidden p) (set n (+ n 1)) (if (< 190 n) (say n) (do))))", "(let n 0) (while 1 (do (hidden p q) (set n (+ n 1)) (if (< 90 n) (say n) (do))))", "(let n 0) (while 1 (do (set n (+ n 1)) (if (< 90 n) (say n) (do)) (run (table)) (do (hidden p))))", "(let n 0) (while 1 (do (set n (+ n 1)) (hidden p) (if (< 90 n) (say n) (do)) (run (table))))", "(hidden a b c) (let n 0) (while 1 (do (set n (+ n 1)) (if (< 190 n) (say n) (do)) (do (say 'd') (hidden p) (say 'e'))))",
		"(let f (fn (n) (hidden p) (say n) (run (call f (+ n 1))))) (run (call f 1))", "(hidden p) (let t (thing)) (hput p t 'a') (while 1 (say (hget p t)))", "(hidden p) (let n 0) (while 1 (do (hput p (thing) n) (set n (+ n 1)) (if (< 990 n) (say n) (do))))", "(hidden p) (let t (thing)) (let n 0) (while 1 (do (hput p t (fn ())) (set n (+ n 1)) (if (< 990 n) (say n) (do))))",
	} {
		l := signsOf(t, page)
		a, b := impl.Played(l, impl.MaxFuel), impl.Played(impl.Bared(l), impl.MaxFuel)
		if a.Fault != impl.FtMany || b.Fault != impl.FtMany || !slices.Equal(a.Said, b.Said) || len(a.Said) == 0 {
			t.Errorf("%s: %s; said again %s", page, showShow(a), showShow(b))
		}
		checkPromiseFifteen(t, l)
	}
}

// F has a Cell of its own, and it is a Step to ask for it; a hidden without a NAME
// is a Step less: one of both may come to no end where the other one does, which
// is no end that says otherwise.
func TestBaredMayComeToNoEnd(t *testing.T) {
	for _, c := range []struct{ page, words, again string }{
		{"(for j 0 100 (do (hidden p))) (say 'm') (for i 0 3800 (do)) (say 'z')", "m/z end", "m/z end"},
		{"(for j 0 150 (do (hidden p))) (say 'm') (for i 0 3800 (do)) (say 'z')", "m/z end", "m many"},
		{"(for j 0 150 (do (hidden p))) (say 'm') (for i 0 3800 (do)) (say (thing))", "m kind", "m many"},
		{"(for j 0 150 (do (hidden p))) (say 'm') (for i 0 4000 (do)) (say 'z')", "m many", "m many"},
		{"(hidden p) (let t (thing)) (hput p t 0) (while (< (hget p t) 1900) (hput p t (+ 1 (hget p t)))) (say 'z')", "z end", "fuel"},
		{"(let n 0) (while (< n 2000) (do (hidden) (hidden) (set n (+ n 1)))) (say 'z')", "fuel", "z end"},
		{"(say 1) (let n 0) (while (< n 2000) (do (hidden) (hidden) (set n (+ n 1)))) (say 'z') (say (thing))", "1 fuel", "1/z kind"},
	} {
		l := signsOf(t, c.page)
		bared := impl.Bared(l)
		a, b := checkShow(t, l, impl.MaxFuel), checkShow(t, bared, impl.MaxFuel)
		if impl.Words(a) != c.words || impl.Words(b) != c.again {
			t.Errorf("%s: %s; said again %s", shortPlay(l), showShow(a), showShow(b))
		}
		checkPromiseFifteen(t, l)
	}
}

// Promise 21, for the functions of chapter 15, from here on.
func hiddenLists(t *testing.T) [][]string {
	lists := append(oldLists(t), madePlays(60)...)
	for _, c := range bareCases() {
		lists = append(lists, signsOf(t, c.page), signsOf(t, tablesPage(c.again)))
	}
	for _, page := range nothingHidden() {
		lists = append(lists, signsOf(t, page))
	}
	for _, signs := range []int{impl.MaxSigns - 3, impl.MaxSigns - 2, impl.MaxSigns, impl.MaxSigns + 1} {
		lists = append(lists, filledUp("(hidden p) FILL", signs), filledUp("FILL (hidden p)", signs), filledUp("(hidden) FILL", signs), filledUp("FILL", signs))
	}
	for _, dos := range []int{57, 58, 59, 60} {
		lists = append(lists, within(dos, "( do", "( hidden p )", ")"))
	}
	return append(lists, nil, []string{}, []string{"A"}, []string{"(", "hidden", "p"}, []string{"(", "hidden"}, []string{"hidden"}, []string{"(", "hidden", ")"}, []string{"(", "hidden", "(", ")", ")"}, []string{"(", "hput", "p"}, []string{"(", "run", "(", "hget"})
}

func TestBaredLeavesWhatIsGiven(t *testing.T) {
	for _, list := range hiddenLists(t) {
		l, room := roomy(list)
		was := slices.Clone(room)
		for _, call := range []func([]string) []string{impl.HiddenIn, impl.Bared} {
			answer := call(l)
			kept := slices.Clone(answer)
			if !slices.Equal(room, was) {
				t.Fatalf("%s became %s", shortList(was), shortList(room))
			}
			other := call(l)
			overwritten(other[:cap(other)])
			if !slices.Equal(room, was) || !slices.Equal(answer, kept) {
				t.Fatalf("%s: an answer shares memory with another one, or with what was given", shortPlay(l))
			}
			overwritten(l)
			if !slices.Equal(answer, kept) {
				t.Fatalf("%s: %s became %s", shortPlay(list), shortList(kept), shortList(answer))
			}
			copy(room, was)
			overwritten(answer)
			if again := call(l); !slices.Equal(again, kept) || !slices.Equal(room, was) {
				t.Fatalf("%s: %s, and again %s", shortPlay(l), shortList(kept), shortList(again))
			}
		}
	}
}

// What is asked again is answered again, whatever was asked between.
func TestBaredKeepsNothing(t *testing.T) {
	cases := bareCases()
	for range 2 {
		for _, c := range cases {
			want := baredAnswers{strings.Fields(c.hidden), signsOf(t, tablesPage(c.again))}
			if got := baredOf(signsOf(t, c.page)); !sameBared(got, want) {
				t.Fatalf("%s: %s; want %s", c.page, showBared(got), showBared(want))
			}
			checkNothingBared(t, signsOf(t, c.page+" (say q0)"))
			checkBaredAsItIs(t, signsOf(t, tablesPage(c.again)))
		}
		slices.Reverse(cases)
	}
}

// What stands in the spare room behind a play is no part of it: no hidden there is
// told, and no name there is anybody's.
func TestBaredDoesNotReadTheSpareRoom(t *testing.T) {
	whole := signsOf(t, "(say 1) (hidden a) (do (hput a 1 2) (hidden b v0) (run (fn () (hidden c))))")
	for n := range len(whole) + 1 {
		checkBared(t, whole[:n])
		checkBared(t, slices.Clip(whole[:n]))
	}
	for _, c := range []struct {
		length int
		hidden string
	}{{0, ""}, {3, ""}, {4, ""}, {7, ""}, {8, "a"}, {9, ""}, {len(whole) - 1, ""}, {len(whole), "a b v0 c"}} {
		if got := impl.HiddenIn(whole[:c.length]); !slices.Equal(got, strings.Fields(c.hidden)) {
			t.Errorf("the first %d: %q", c.length, got)
		}
	}
	if got, want := impl.Bared(whole[:8]), signsOf(t, "(let v0 (table)) (say 1)"); !slices.Equal(got, want) {
		t.Errorf("the first 8: %s", shortPlay(got))
	}
}

// The line "hidden" of the document's chapter Ways: what a function makes of a name
// is an array, and that is held against another one.
func TestNamesAreArraysThatAreCompared(t *testing.T) {
	path := "../impl/l15_hidden.go"
	arrays, makers, made := map[string]bool{}, map[string]bool{}, map[string]bool{}
	hasNode(t, path, func(n ast.Node) bool {
		if spec, is := n.(*ast.TypeSpec); is {
			array, is := spec.Type.(*ast.ArrayType)
			arrays[spec.Name.Name] = is && array.Len != nil
		}
		return false
	})
	hasNode(t, path, func(n ast.Node) bool {
		if f, is := n.(*ast.FuncDecl); is && f.Type.Results != nil {
			result, is := f.Type.Results.List[0].Type.(*ast.Ident)
			makers[f.Name.Name] = is && arrays[result.Name]
		}
		return false
	})
	hasNode(t, path, func(n ast.Node) bool {
		set, is := n.(*ast.AssignStmt)
		if !is || len(set.Lhs) != len(set.Rhs) {
			return false
		}
		for at, value := range set.Rhs {
			if call, is := value.(*ast.CallExpr); is {
				maker, isMaker := call.Fun.(*ast.Ident)
				name, isName := set.Lhs[at].(*ast.Ident)
				if isMaker && isName && makers[maker.Name] {
					made[name.Name] = true
				}
			}
		}
		return false
	})
	if !hasNode(t, path, func(n ast.Node) bool {
		b, is := n.(*ast.BinaryExpr)
		if !is || b.Op != token.EQL && b.Op != token.NEQ {
			return false
		}
		first, isFirst := b.X.(*ast.Ident)
		second, isSecond := b.Y.(*ast.Ident)
		return isFirst && made[first.Name] || isSecond && made[second.Name]
	}) {
		t.Error("no names are arrays that are compared in the layer of what is hidden")
	}
}
