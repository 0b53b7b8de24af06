package tests

import (
	"fmt"
	"go/ast"
	"slices"
	"strings"
	"testing"

	"loop.example/g00544/impl"
)

func givenOf(l []string) givenAnswers { return givenAnswers{impl.DefaultsIn(l), impl.Given(l)} }

func sameGiven(a givenAnswers, b givenAnswers) bool {
	return a.count == b.count && slices.Equal(a.said, b.said)
}

func showGiven(a givenAnswers) string { return fmt.Sprintf("%d, %s", a.count, shortPlay(a.said)) }

// checkGiven holds the program against the slow reading, and tells what it says.
func checkGiven(t *testing.T, l []string) givenAnswers {
	t.Helper()
	got := givenOf(l)
	if want := givenSlowly(l); !sameGiven(got, want) {
		t.Errorf("%s: %s; read slowly %s", shortPlay(l), showGiven(got), showGiven(want))
	}
	return got
}

func checkNothingSaid(t *testing.T, l []string) {
	t.Helper()
	if got := givenOf(l); got.count != -1 || len(got.said) > 0 {
		t.Errorf("%s: %s", shortPlay(l), showGiven(got))
	}
}

func checkAsItIs(t *testing.T, l []string) {
	t.Helper()
	if got := givenOf(l); got.count != 0 || !slices.Equal(got.said, l) {
		t.Errorf("%s: %s", shortPlay(l), showGiven(got))
	}
}

func TestGiven(t *testing.T) {
	for _, c := range givenCases() {
		l, again := signsOf(t, c.page), signsOf(t, againPage(c.again))
		got := checkGiven(t, l)
		if !slices.Equal(got.said, again) {
			t.Errorf("%s: %s; want %s", c.page, shortPlay(got.said), impl.ShowSigns(again))
		}
		if got.count != c.count {
			t.Errorf("%s: %d are given; want %d", c.page, got.count, c.count)
		}
		for _, said := range [][]string{l, got.said} {
			if words := impl.Words(checkShow(t, said, impl.MaxFuel)); words != c.words {
				t.Errorf("%s says %q; want %q", shortPlay(said), words, c.words)
			}
		}
	}
}

func TestGivenWhereNothingIsGiven(t *testing.T) {
	checkAsItIs(t, nil)
	checkAsItIs(t, []string{})
	for _, page := range nothingGiven() {
		checkAsItIs(t, signsOf(t, page))
		checkGiven(t, signsOf(t, page))
	}
	for _, a := range arounds() {
		for _, deed := range newDeeds() {
			if page, _ := deed.alone(); a.adds != "given" && deed.word != "given" {
				checkAsItIs(t, signsOf(t, a.with(page)))
			}
		}
	}
}

func TestDefaultsIn(t *testing.T) {
	for _, c := range []struct {
		page string
		want int64
	}{
		{"", 0}, {"(say 1)", 0}, {"(say 'fn')", 0}, {"(let given 1)", 0}, {"(take (x) (thing))", 0}, {"(run (fn ()))", 0}, {"(run (fn (x)))", 0}, {"(run (fn (x y) (back (fn (z) (back z)))))", 0},
		{"(run (fn ((x 1))))", 1}, {"(run (fn ((x 1)) (do)))", 1}, {"(run (fn ((x 1) y (z 2)) (do)))", 2}, {"(run (fn (x (y 1))))", 1}, {"(run (fn (x (y 1) z)))", 1}, {"(run (fn ((x 1) (y 2) (z 3))))", 3}, {"(run (fn ((x (thing 1 2 (table))) y)))", 1},
		// Beside each other.
		{"(run (fn ((x 1)))) (run (fn ((x 1))))", 2}, {"(run (fn ((x 1) (y 2)))) (run (fn (x))) (run (fn ((x 1))))", 3}, {"(run (thing (fn ((x 1))) (fn ((x 1) (y 2))) (fn ()) (fn ((x 1)))))", 4},
		// Within each other: in the deeds, in the SUM, and in both.
		{"(run (fn ((x 1)) (run (fn ((y 2))))))", 2}, {"(run (fn (x) (run (fn ((y 2))))))", 1}, {"(run (fn ((x 1)) (run (fn (y)))))", 1}, {"(run (fn ((x (fn ((y 2)))))))", 2}, {"(run (fn ((x (fn (y))))))", 1}, {"(run (fn ((x (fn ((y (fn ((z 1) w)))))))))", 3}, {"(run (fn ((x (fn ((y 1) (z 2))))) (run (fn ((x 3) y (z 4)) (run (fn ((x 5))))))))", 6},
		// In whatever stands around.
		{"(do (do (let f (fn ((x 1))))))", 1}, {"(if (fn ((x 1))) (run (fn ((x 1)))) (do (run (fn ((x 1))))))", 3}, {"(while (fn ((x 1))) (run (fn ((x 1)))))", 2}, {"(for i (fn ((x 1))) (fn ((x 1))) (run (fn ((x i)))))", 3}, {"(run (call (fn ((x 1))) (fn ((x 1)))))", 2},
		// Where it is not Scoped, whatever is given in it.
		{"(say q)", -1}, {"(run (fn ((x q))))", -1}, {"(run (fn ((x 1)) (back q)))", -1}, {"(run (fn ((x 1) x)))", -1}, {"(run (fn ((x 1) (x 2))))", -1}, {"(run (fn ((x 1)) (vars y)))", -1}, {"(run (fn ((x 1)) (leave)))", -1}, {"(run (fn ((x 1)))) (leave)", -1},
		// What is no play.
		{"(fn ((x 1)))", -1}, {"(run (fn ((x))))", -1}, {"(run (fn ((x 1 2))))", -1}, {"(run (fn (())))", -1}, {"(run (fn ((5 1))))", -1}, {"(run (fn ((x 1))", -1}, {"(run (fn ((x 1)))))", -1}, {"(run (fn ((fn 1))))", -1}, {"(run (fn (((x 1)))))", -1}, {"(x 1)", -1}, {"fn", -1}, {"(run fn)", -1}, {"(", -1}, {")", -1}, {"5", -1},
	} {
		if got := impl.DefaultsIn(signsOf(t, c.page)); got != c.want {
			t.Errorf("%s: %d; want %d", c.page, got, c.want)
		}
		checkGiven(t, signsOf(t, c.page))
	}
}

// Of each thing that Scoped asks for, that one alone broken, beside and within
// what is given.
func TestGivenOfWhatIsNotScoped(t *testing.T) {
	for _, broken := range slices.Concat(brokenPages(), []string{
		"(run (fn ((x y)) (let y 1)))", "(run (fn ((x y)) (take (y) 1)))", "(run (fn ((x (hget p 1))) (hidden p)))", "(run (fn ((x 1)) (do (vars y))))", "(run (fn ((x 1) (y 2) x)))", "(run (fn ((x (fn () (leave))))))", "(while 1 (run (fn ((x 1)) (next))))",
	}) {
		for _, page := range []string{
			broken, "(run (fn ((b 1)))) " + broken, broken + " (run (fn (a (b a))))", "(do " + broken + " (do (run (fn ((b 1) (c 2)) (back b)))))", "(run (fn ((b 1)) " + broken + "))", "(run (fn ((b (fn () " + broken + ")))))",
		} {
			l := signsOf(t, page)
			if !impl.PlayOk(l) || impl.Scoped(l) {
				t.Errorf("%s: the test itself is wrong", page)
			}
			checkNothingSaid(t, l)
			checkGiven(t, l)
		}
	}
}

func TestGivenOfWhatIsNoPlay(t *testing.T) {
	play := signsOf(t, "(let b (fn ((c 1)) (back (join c))))")
	for _, page := range []string{
		"a", "5", "'a'", "none", "+", "(", ")", "( )", "fn", "(+ 1 2)", "(call f)", "(fn ((a 1)) (let b 1))", "(run (fn ((a 1)))", "(run (fn ((a 1))))))", "(do (run (fn ((a 1))))", ")(", "(run (fn))", "(run (fn a))", "(run (fn ((a))))", "(run (fn ((a 1 2))))", "(run (fn (())))", "(run (fn ((none 1))))", "(run (fn ((fn 1))))", "(run (fn (((a 1)))))", "(run (fn ((a (do)))))", "(run (fn ((a 1)) 5))", "(run (fn ((a 1)) (+ 1 2)))",
		"(if 1 (let a 1) (do))", "(given)", "((run 1))", "(say 1) 5", "(if (= x none) (set x 1))",
	} {
		l := signsOf(t, page)
		for _, list := range [][]string{l, slices.Concat(play, l), slices.Concat(l, play), slices.Concat([]string{"(", "do"}, play, l, []string{")"})} {
			checkNothingSaid(t, list)
		}
	}
	for _, bad := range wrongSigns() {
		for _, list := range [][]string{{bad}, slices.Concat(play, []string{bad}), slices.Concat([]string{bad}, play), signsWith("(run (fn ((X 1))))", bad), signsWith("(run (fn ((x X))))", bad), signsWith("(run (fn (X (y 1))))", bad), signsWith("(run (X ((y 1))))", bad), signsWith("(run (fn ((y 1)) (say X)))", bad)} {
			checkNothingSaid(t, list)
		}
	}
	for _, l := range itemLists(t) {
		if len(l) > 0 && !impl.PlayOk(l) {
			checkNothingSaid(t, l)
		}
	}
	for _, n := range []int{impl.MaxSigns, 100000} {
		for _, l := range [][]string{within(n, "(", "fn", ")"), within(n, "(", "", ""), within(n, "( fn", "", ")"), within(n, "( run ( fn ( ( a", "1", ") ) ) )"), within(n, "( run ( fn ( ( a 1 ) )", "", ") )"), within(n, ")", "", "("), slices.Repeat([]string{"fn"}, n), slices.Repeat(play, n)} {
			checkNothingSaid(t, l)
		}
	}
}

// signsWith has a sign, be it right or wrong, in the place of each X.
func signsWith(page string, sign string) []string {
	out := wordsOf(page)
	for at := range out {
		if out[at] == "X" {
			out[at] = sign
		}
	}
	return out
}

// Another sign at each place: other names, and words that make another form.
func TestGivenWithOneSignChanged(t *testing.T) {
	scoped := 0
	for _, c := range givenCases() {
		l := signsOf(t, c.page)
		for at := range l {
			for _, other := range []string{"x", "y", "1", "none", "fn", "do", "thing", "join", "vars", "back", "A"} {
				changed := slices.Clone(l)
				changed[at] = other
				if checkGiven(t, changed).count >= 0 {
					scoped++
				}
			}
			checkGiven(t, slices.Delete(slices.Clone(l), at, at+1))
		}
		if t.Failed() {
			return
		}
	}
	if scoped < 2000 {
		t.Errorf("only %d were Scoped", scoped)
	}
}

// A depthOfGiven is a play with something DEEP in it, with the depth of what
// stands around that, ahead of and behind saying it again.
type depthOfGiven struct {
	page          string
	before, after int
	isSum         bool
}

func depthsOfGiven() []depthOfGiven {
	return []depthOfGiven{
		{"DEEP", 0, 0, false}, {"(run (fn (x) DEEP))", 2, 2, false}, {"(run (fn ((x 1)) DEEP))", 2, 3, false}, {"(run (fn ((x 1) y (z 2)) DEEP))", 2, 3, false}, {"(run (fn ((x 1)) (run (fn ((x 1)) DEEP))))", 4, 6, false}, {"(run (fn ((x 1)) (run (fn (x) DEEP))))", 4, 5, false}, {"(run (fn (x) (run (fn ((x 1)) DEEP))))", 4, 5, false}, {"(do (while 1 (do (run (fn ((x 1)) DEEP)))))", 5, 6, false},
		{"(run (fn ((x (fn ((y 1)) DEEP)))))", 5, 6, false}, {"(run (fn ((x 1)) (run (fn ((x (fn ((y 1)) DEEP)))))))", 7, 9, false}, {"(run (fn ((x (fn (y) DEEP)))))", 5, 5, false}, {"DEEP (run (fn ((x 1))))", 0, 0, false}, {"(run (fn ((x 1)) (say 1))) (do DEEP)", 1, 1, false}, {"(say 1) (run (fn ((x 1)) DEEP)) (say 2)", 2, 3, false}, {"(do) (say 1) (run (fn ((x 1)) DEEP))", 2, 3, false}, {"(run (fn ((x 1)) DEEP)) (do)", 2, 3, false},
		{"(run DEEP)", 1, 1, true}, {"(run (fn ((x DEEP))))", 4, 4, true}, {"(run (fn (w (x 1) (y DEEP) z)))", 4, 4, true}, {"(run (fn ((x DEEP)) (do (do))))", 4, 4, true}, {"(run (fn ((x (fn ((y DEEP)))))))", 7, 7, true}, {"(run (fn ((x 1)) (run DEEP)))", 3, 4, true}, {"(run (fn ((x 1)) (run (fn ((y DEEP))))))", 6, 7, true}, {"(run (call (fn ((x 1))) DEEP))", 2, 2, true},
	}
}

func (d depthOfGiven) with(t *testing.T, deep int) []string {
	inside := within(deep-1, "( do", "( do )", ")")
	if d.isSum {
		inside = within(deep-1, "( + 1", "( table )", ")")
	}
	return signsOf(t, strings.ReplaceAll(d.page, "DEEP", strings.Join(inside, " ")))
}

func TestGivenAtMaxDepth(t *testing.T) {
	for _, d := range depthsOfGiven() {
		for deep := 40; deep <= impl.MaxDepth+2; deep++ {
			l := d.with(t, deep)
			got := checkGiven(t, l)
			isPlay, saysIt := d.before+deep <= impl.MaxDepth, d.after+deep <= impl.MaxDepth
			if (got.count >= 0) != isPlay || (len(got.said) > 0) != saysIt {
				t.Errorf("%s, %d deep: %s", d.page, deep, showGiven(got))
			}
		}
	}
	// A fn that is given something goes no deeper by itself.
	for _, inside := range []string{"( run ( fn ( ( x 1 ) ) ) )", "( run ( fn ( ( x 1 ) ) ( do ) ) )", "( run ( fn ( ( x 1 ) ) ( say x ) ( say x ) ) )"} {
		for n, is := range map[int]bool{0: true, 55: true, 56: true, 57: false, 58: false} {
			got := givenOf(within(n, "( do", inside, ")"))
			if (got.count == 1) != is || (len(got.said) > 0) != is {
				t.Errorf("%s in %d dos: %s", inside, n, showGiven(got))
			}
		}
	}
}

// filledUp has a thing of so many sums in the place of each FILL, so that it has
// just so many signs.
func filledUp(page string, signs int) []string {
	ahead, behind, _ := strings.Cut(page, "FILL")
	first, second := wordsOf(ahead), wordsOf(behind)
	ones := signs - len(first) - len(second) - len(wordsOf("(run (thing))"))
	return slices.Concat(first, []string{"(", "run", "(", "thing"}, slices.Repeat([]string{"1"}, ones), []string{")", ")"}, second)
}

func TestGivenAtMaxSigns(t *testing.T) {
	for _, c := range []struct {
		page       string
		count, fns int
	}{
		{"FILL", 0, 0}, {"(run (fn (x) FILL))", 0, 0}, {"(run (fn ((x 1)))) FILL", 1, 1}, {"FILL (run (fn ((x 1))))", 1, 1}, {"(run (fn ((x 1)) FILL))", 1, 1}, {"(run (fn ((x (fn () FILL)))))", 1, 1}, {"(run (fn ((x 1) (y 2)) FILL (back x)))", 2, 1}, {"(run (fn ((x 1) (y 2) z (w 3)) FILL (back x))) (run (fn ((x 1))))", 4, 2},
		{"(run (fn ((x (fn ((y (fn ((z 1)) FILL))))))))", 3, 3}, {"(run (fn ((x 1)) (run (fn ((x 1)) (run (fn (x) FILL))))))", 2, 2}, {"(for i 0 1 (do (let f (fn ((x 1)) (back x))) FILL)) (while 1 (run (fn ((x 1) (y 2)))))", 3, 2},
	} {
		// Each (NAME SUM) has 13 signs more, and each fn that has one 3 more.
		more := 13*c.count + 3*c.fns
		for _, signs := range []int{100, impl.MaxSigns - more - 1, impl.MaxSigns - more, impl.MaxSigns - more + 1, impl.MaxSigns - 1, impl.MaxSigns, impl.MaxSigns + 1} {
			l := filledUp(c.page, signs)
			want := givenAnswers{int64(c.count), nil}
			if signs > impl.MaxSigns {
				want.count = -1
			}
			got, saysIt := givenOf(l), signs+more <= impl.MaxSigns
			if len(l) != signs || got.count != want.count || saysIt && len(got.said) != signs+more || !saysIt && len(got.said) > 0 {
				t.Errorf("%s with %d signs: %d, %d signs", c.page, len(l), got.count, len(got.said))
			}
			if c.count == 0 && saysIt && !slices.Equal(got.said, l) {
				t.Errorf("%s with %d signs is not as it is", c.page, len(l))
			}
		}
		checkGiven(t, filledUp(c.page, 100))
		checkGiven(t, filledUp(c.page, impl.MaxSigns-more))
	}
}

// As many as there may be: fns beside each other, PARAMs of one fn, and fns
// within each other.
func TestGivenOfMany(t *testing.T) {
	one := signsOf(t, "(run (fn ((x 1))))")
	for n := range 80 {
		want := givenAnswers{int64(n), slices.Repeat(signsOf(t, againPage("(run (fn (x) x? 1; (do)))")), n)}
		if n > 71 {
			want.said = nil
		}
		if got := givenOf(slices.Repeat(one, n)); !sameGiven(got, want) {
			t.Errorf("%d beside each other: %d, %d signs", n, got.count, len(got.said))
		}
	}
	for n := 1; n < 130; n++ {
		var params, names, ifs []string
		for at := range n {
			name := fmt.Sprintf("x%d", at)
			params, names, ifs = append(params, "("+name+" "+fmt.Sprint(at)+")"), append(names, name), append(ifs, fmt.Sprintf("%s? %d;", name, at))
		}
		got := givenOf(signsOf(t, "(run (fn ("+strings.Join(params, " ")+")))"))
		again := []string{}
		if 11+17*n <= impl.MaxSigns {
			again = signsOf(t, againPage("(run (fn ("+strings.Join(names, " ")+") "+strings.Join(ifs, " ")+" (do)))"))
		}
		if got.count != int64(n) || !slices.Equal(got.said, again) {
			t.Errorf("%d PARAMs: %d, %d signs; want %d", n, got.count, len(got.said), len(again))
		}
	}
	for n := range 40 {
		for _, page := range []string{"( run ( fn ( ( x 1 ) )|( say x )|) )", "( run ( fn ( ( x ( fn ( ( y 1 ) )|( say x )|) ) ) ) )", "( run ( fn ( ( x ( call ( fn ( )|( back 2 )|) ) ) ) ) )"} {
			parts := strings.Split(page, "|")
			checkGiven(t, within(n, parts[0], parts[1], parts[2]))
		}
	}
}

// fuelsFor are no fuel, one step, some, and MaxFuel; and where each of both ends,
// and one less.
func fuelsFor(a impl.Show, b impl.Show) []int64 {
	out := []int64{0, 1, 2, 3, 5, 8, 13, 21, 34, 55, 89, 300, impl.MaxFuel}
	for _, steps := range []int64{a.Steps, b.Steps, (a.Steps + b.Steps) / 2, a.Steps / 2} {
		for _, fuel := range []int64{steps - 1, steps, steps + 1} {
			if fuel >= 0 && fuel <= impl.MaxFuel {
				out = append(out, fuel)
			}
		}
	}
	return out
}

// checkSaysTheSame asks a play and what it is said again as.
func checkSaysTheSame(t *testing.T, l []string, again []string, fuels ...int64) {
	t.Helper()
	for _, fuel := range fuels {
		a, b := impl.Played(l, fuel), impl.Played(again, fuel)
		if !impl.Alike(a, b) || !impl.Alike(b, a) || !alikeSlowly(a, b) {
			t.Fatalf("%s with fuel %d: %s; said again %s: %s", shortPlay(l), fuel, showShow(a), shortPlay(again), showShow(b))
		}
	}
}

// checkPromiseTwelve asks that Given says the same, and that nothing is given any
// more; it tells with which Fault both end, with MaxFuel.
func checkPromiseTwelve(t *testing.T, l []string) int64 {
	t.Helper()
	given := impl.Given(l)
	if !impl.Scoped(given) || impl.DefaultsIn(given) != 0 || len(given) == 0 && len(l) > 0 {
		t.Fatalf("%s: %s", shortPlay(l), shortPlay(given))
	}
	wasNew := slices.DeleteFunc(impl.NewIn(l), func(word string) bool { return word == "given" })
	if isNew := impl.NewIn(given); !slices.Equal(isNew, wasNew) {
		t.Fatalf("%s: %q are new; want %q", shortPlay(given), isNew, wasNew)
	}
	if again := impl.Given(given); !slices.Equal(again, given) {
		t.Fatalf("%s: once more %s", shortPlay(given), shortPlay(again))
	}
	first, second := impl.Played(l, impl.MaxFuel), impl.Played(given, impl.MaxFuel)
	if impl.DefaultsIn(l) == 0 != slices.Equal(given, l) || second.Steps < first.Steps {
		t.Fatalf("%s: %s", shortPlay(l), shortPlay(given))
	}
	checkSaysTheSame(t, l, given, fuelsFor(first, second)...)
	if first.Fault == second.Fault && slices.Equal(first.Said, second.Said) {
		return first.Fault
	}
	// It has more Steps, so that it may come to no end where the play comes to one.
	if second.Fault != impl.FtFuel {
		t.Fatalf("%s: %s; said again %s", shortPlay(l), showShow(first), showShow(second))
	}
	return impl.FtFuel
}

// Promise 12: Given says the same, and nothing is given any more.
func TestGivenSaysTheSame(t *testing.T) {
	for _, c := range givenCases() {
		l := signsOf(t, c.page)
		checkPromiseTwelve(t, l)
		// With each fuel, by both players.
		given := impl.Given(l)
		slow, slowGiven := slowPlayOf(l), slowPlayOf(given)
		for fuel := range min(impl.Played(given, impl.MaxFuel).Steps, 400) + 3 {
			a, b := impl.Played(l, fuel), impl.Played(given, fuel)
			if !impl.Alike(a, b) || !alikeSlowly(slow.played(fuel), slowGiven.played(fuel)) {
				t.Fatalf("%s with fuel %d: %s; said again %s", c.page, fuel, showShow(a), showShow(b))
			}
		}
	}
	for _, page := range nothingGiven() {
		checkPromiseTwelve(t, signsOf(t, page))
	}
}

func TestGivenOfMadePlaysSaysTheSame(t *testing.T) {
	t.Parallel()
	ends, given := map[int64]int{}, 0
	for n, l := range playsToAsk(t, 600) {
		if len(impl.Given(l)) == 0 && impl.DefaultsIn(l) > 0 {
			checkGiven(t, l)
			continue
		}
		fault := checkPromiseTwelve(t, l)
		if impl.DefaultsIn(l) > 0 {
			ends[fault]++
			given++
		}
		if n%3 == 0 {
			checkGiven(t, l)
		}
	}
	for fault := range int64(6) {
		if ends[fault] < 3 {
			t.Errorf("only %d of %d end with %d", ends[fault], given, fault)
		}
	}
	if given < 500 {
		t.Errorf("only %d are given something", given)
	}
}

// paramLists are all lists of at most so many PARAMs out of some kinds of them;
// each NAME has its own number.
func paramLists(most int) [][]string {
	kinds := []string{"xN", "(xN 'dN')", "(xN none)", "(xN (join x0 'eN'))", "(xN (call (fn () (say 'sN') (set x0 'tN') (back 'bN'))))", "(xN (call (fn ((q 'qN') (x0 none)) (back q))))", "(xN (+ 1 none))"}
	var out [][]string
	for _, list := range listsOf(most, kinds...) {
		for n := range list {
			list[n] = strings.ReplaceAll(list[n], "N", fmt.Sprint(n))
		}
		if len(list) > 0 {
			out = append(out, list)
		}
	}
	return out
}

func namesOfParams(count int) string {
	return strings.Join(manyOf(count, func(n int64) string { return fmt.Sprintf("x%d", n) }), " ")
}

// Each list of PARAMs, called with fewer sums, with as many and with more, each
// of which may be none.
func TestGivenOfEachListOfParams(t *testing.T) {
	ends := map[int64]int{}
	for _, params := range paramLists(3) {
		for _, sums := range listsOf(len(params)+1, "none", "7") {
			if len(sums) == len(params)+1 && sums[0] == "none" {
				continue
			}
			l := signsOf(t, "(say (call (fn ("+strings.Join(params, " ")+") (back (join "+namesOfParams(len(params))+"))) "+strings.Join(sums, " ")+"))")
			given := impl.Given(l)
			if impl.DefaultsIn(given) != 0 {
				t.Fatalf("%s: %s", shortPlay(l), shortPlay(given))
			}
			for _, fuel := range []int64{0, 1, 19, impl.MaxFuel} {
				a, b := impl.Played(l, fuel), impl.Played(given, fuel)
				if !impl.Alike(a, b) || fuel == impl.MaxFuel && (a.Fault != b.Fault || !slices.Equal(a.Said, b.Said)) {
					t.Fatalf("%s with fuel %d: %s; said again %s", shortPlay(l), fuel, showShow(a), showShow(b))
				}
				ends[a.Fault]++
			}
		}
	}
	if ends[impl.FtNone] < 1000 || ends[impl.FtKind] < 1000 || ends[impl.FtFuel] < 1000 {
		t.Errorf("%v", ends)
	}
}

// Each list of PARAMs with deeds that are none, that declare a NAME of a PARAM
// again, that leave by back, and that keep what they have.
func TestGivenOfEachKindOfDeeds(t *testing.T) {
	asked := 0
	for _, params := range paramLists(2) {
		for _, deeds := range []string{
			"", "(back x0)", "(let x0 9) (back x0)", "(say x0) (let x0 x0) (say x0)", "(back x0) (let x0 9)", "(take (y x0) (thing 8 9)) (back (join x0 y))", "(hidden x0) (let t (thing)) (hput x0 t x0) (back (hget x0 t))", "(do (let x0 9) (say x0)) (back x0)", "(set x0 5) (say x0)",
			"(while 1 (back x0))", "(for x0 0 2 (say x0)) (back x0)", "(for i 0 3 (do (if (= i 1) (next) (leave)) (say i))) (say x0)", "(if 1 (do (do (back x0))) (say 'no')) (say 'no')", "(back (call (fn () (set x0 4) (back x0))))", "(run (call (fn (x0) (say x0)) x0))", "(run (call (fn ((x0 x0)) (say x0))))", "(run (call (fn () (let x0 3) (say x0)))) (say x0)", "(say x0) (say (thing)) (say 'no')",
		} {
			for _, sums := range []string{"", "none", "7", "none 7", "7 none", "7 8 9"} {
				fn := "(fn (" + strings.Join(params, " ") + ") " + deeds + ")"
				for _, page := range []string{"(say (call " + fn + " " + sums + "))", "(let f " + fn + ") (for i 0 2 (do (say (call f " + sums + ")) (say (call f i))))"} {
					l := signsOf(t, page)
					given := impl.Given(l)
					if impl.DefaultsIn(given) != 0 {
						t.Fatalf("%s: %s", page, shortPlay(given))
					}
					asked++
					checkSaysTheSame(t, l, given, 0, 1, 17, 50, impl.MaxFuel)
				}
			}
		}
	}
	if asked < 10000 {
		t.Errorf("only %d were asked", asked)
	}
}

// Whatever stands within whatever stands within whatever.
func TestGivenWithinOneAnother(t *testing.T) {
	t.Parallel()
	arounds := []string{
		"(do HERE (say 'd'))", "(if a HERE (say 'e'))", "(for a 1 3 (do HERE (say a)))", "(while (< a 4) (do (set a (+ a 1)) HERE (say 'w')))", "(say (call (fn () HERE (back a))))", "(run (call (fn ((a 2)) HERE (set a 9)) none))", "(say (call (fn ((b a) (a b)) HERE (let a 7) (back b))))", "(say (call (fn ((c (call (fn () HERE (back a))))) (back c))))", "(say (call (fn (a (d (call (fn ((a 5)) HERE)))) (back (join a d))) 6))", "(do (let f (fn ((a 3) b) HERE)) (set a 7) (run (call f)) (run (call f 8)))", "(run (call (fn (g) (run (call g)) (run (call g 1))) (fn ((a (+ a 1))) HERE)))",
	}
	insides := []string{"(say a)", "(back a)", "(set a (+ a 1))", "(run (call (fn ((a 4)) (say a))))", "(say (+ a none))", "(if (< a 3) (next) (leave))", "(back (call (fn ((a a) (e a)) (back (join a e)))))"}
	put := func(around string, inside string) string { return strings.ReplaceAll(around, "HERE", inside) }
	asked := 0
	for _, outer := range arounds {
		for _, middle := range arounds {
			for n, inner := range arounds {
				for m, inside := range insides {
					l := signsOf(t, "(let b 1) (let a 1) "+put(outer, put(middle, put(inner, inside)))+" (say a)")
					if !impl.Scoped(l) {
						continue
					}
					given := impl.Given(l)
					if (n+m)%4 == 0 {
						checkGiven(t, l)
					}
					if impl.DefaultsIn(given) != 0 {
						t.Fatalf("%s: %s", shortPlay(l), shortPlay(given))
					}
					asked++
					checkSaysTheSame(t, l, given, 0, 1, 60, 400, 3000)
				}
			}
			if t.Failed() {
				return
			}
		}
	}
	if asked < 7000 {
		t.Errorf("only %d were asked", asked)
	}
}

// Where something is made too often, it is so at the same place.
func TestGivenEndsWithTooMuchAtTheSamePlace(t *testing.T) {
	for _, page := range []string{
		"(let f (fn ((x 1)) (say x) (run (call f (+ x 1))))) (run (call f))", "(let f (fn (n (m (call f (+ n 1)))) (say n))) (say 'a') (run (call f 0))", "(let f (fn (n (m (call (fn () (say n) (run (call f (+ n 1))))))) (do))) (run (call f 0))",
		"(let f (fn ((x 1)) (say x))) (while 1 (run (call f)))", "(let f (fn ((x (= (fn ()) (fn ())))) (set n (+ n 1)) (if (< 494 n) (say n) (do)))) (let n 0) (while 1 (run (call f)))", "(let f (fn ((x (thing (thing)))) (set n (+ n 1)) (if (< 494 n) (say n) (do)))) (let n 0) (while 1 (run (call f)))", "(let f (fn ((x (table))) (set n (+ n 1)) (if (< 194 n) (say n) (do)))) (let n 0) (while 1 (run (call f)))", "(let f (fn ((x 1)) (hidden p) (set n (+ n 1)) (if (< 194 n) (say n) (do)))) (let n 0) (while 1 (run (call f)))",
		"(let f (fn ((a 1) (b 2) c d) (let e 1) (let g 2) (let h 3) (let i 4) (set n (+ n 1)) (if (< 490 n) (say n) (do)))) (let n 0) (while 1 (run (call f)))", "(let f (fn ((a (call (fn (k l m) (say (join 'p' n)))))) (let e 1) (set n (+ n 1)))) (let n 0) (while (< n 100) (run (call f))) (while 1 (for i 0 9000 (do)))",
	} {
		l := signsOf(t, page)
		a, b := impl.Played(l, impl.MaxFuel), impl.Played(impl.Given(l), impl.MaxFuel)
		if a.Fault != impl.FtMany || b.Fault != impl.FtMany || !slices.Equal(a.Said, b.Said) || len(a.Said) == 0 {
			t.Errorf("%s: %s; said again %s", page, showShow(a), showShow(b))
		}
		checkPromiseTwelve(t, l)
	}
}

// Promise 21, for the functions of chapter 12, from here on.
func givenLists(t *testing.T) [][]string {
	lists := append(oldLists(t), madePlays(60)...)
	for _, c := range givenCases() {
		lists = append(lists, signsOf(t, c.page), signsOf(t, againPage(c.again)))
	}
	for _, page := range nothingGiven() {
		lists = append(lists, signsOf(t, page))
	}
	for _, signs := range []int{impl.MaxSigns - 16, impl.MaxSigns - 15, impl.MaxSigns, impl.MaxSigns + 1} {
		lists = append(lists, filledUp("(run (fn ((x 1)) FILL))", signs), filledUp("FILL", signs))
	}
	for _, deep := range []int{57, 58, 59} {
		lists = append(lists, depthsOfGiven()[2].with(t, deep))
	}
	return append(lists, []string{"A"}, []string{"(", "run", "(", "fn", "(", "(", "x"}, []string{"(", "fn"}, []string{"fn"}, []string{"(", "run", "(", "fn", ")", ")"})
}

func TestGivenLeavesWhatIsGiven(t *testing.T) {
	for _, list := range givenLists(t) {
		l, room := roomy(list)
		was := slices.Clone(room)
		answer, count := impl.Given(l), impl.DefaultsIn(l)
		kept := slices.Clone(answer)
		if !slices.Equal(room, was) {
			t.Fatalf("%s became %s", shortList(was), shortList(room))
		}
		overwritten(impl.Given(l))
		if !slices.Equal(room, was) || !slices.Equal(answer, kept) {
			t.Fatalf("%s: an answer shares memory with another one, or with what was given", shortPlay(l))
		}
		overwritten(l)
		if !slices.Equal(answer, kept) {
			t.Fatalf("%s: %s became %s", shortPlay(list), shortPlay(kept), shortPlay(answer))
		}
		copy(room, was)
		overwritten(answer)
		if again := givenOf(l); !sameGiven(again, givenAnswers{count, kept}) || !slices.Equal(room, was) {
			t.Fatalf("%s: %s, and again %s", shortPlay(l), shortPlay(kept), showGiven(again))
		}
	}
}

// What is asked again is answered again, whatever was asked between.
func TestGivenKeepsNothing(t *testing.T) {
	cases := givenCases()
	for range 2 {
		for _, c := range cases {
			want := givenAnswers{c.count, signsOf(t, againPage(c.again))}
			if got := givenOf(signsOf(t, c.page)); !sameGiven(got, want) {
				t.Fatalf("%s: %s; want %s", c.page, showGiven(got), showGiven(want))
			}
			checkNothingSaid(t, signsOf(t, c.page+" (say q0)"))
			checkAsItIs(t, signsOf(t, againPage(c.again)))
		}
		slices.Reverse(cases)
	}
}

// What stands in the spare room behind a play is no part of it.
func TestGivenDoesNotReadTheSpareRoom(t *testing.T) {
	whole := signsOf(t, "(say 1) (run (fn ((x 1) y))) (run (fn ((x (fn ((z 2)))))))")
	for n := range len(whole) + 1 {
		checkGiven(t, whole[:n])
		checkGiven(t, slices.Clip(whole[:n]))
	}
	for _, c := range []struct {
		length int
		count  int64
	}{{0, 0}, {3, -1}, {4, 0}, {16, -1}, {17, 1}, {18, -1}, {len(whole) - 1, -1}, {len(whole), 3}} {
		if got := impl.DefaultsIn(whole[:c.length]); got != c.count {
			t.Errorf("the first %d: %d", c.length, got)
		}
	}
}

// The line "given" of the document's chapter Ways.
func TestSignsAreSaidByAVariadicHelper(t *testing.T) {
	path := "../impl/l12_given.go"
	helpers := map[string]bool{}
	hasNode(t, path, func(n ast.Node) bool {
		f, is := n.(*ast.FuncDecl)
		if !is || len(f.Type.Params.List) == 0 {
			return false
		}
		last, is := f.Type.Params.List[len(f.Type.Params.List)-1].Type.(*ast.Ellipsis)
		if !is {
			return false
		}
		of, is := last.Elt.(*ast.Ident)
		helpers[f.Name.Name] = is && of.Name == "string"
		return false
	})
	// Called with several signs at once, and with one.
	calls := map[int]int{}
	hasNode(t, path, func(n ast.Node) bool {
		call, is := n.(*ast.CallExpr)
		if !is {
			return false
		}
		name := ""
		switch called := call.Fun.(type) {
		case *ast.Ident:
			name = called.Name
		case *ast.SelectorExpr:
			name = called.Sel.Name
		}
		if helpers[name] {
			calls[min(len(call.Args), 2)]++
		}
		return false
	})
	if calls[2] == 0 {
		t.Errorf("no signs by a variadic helper in the layer of what is given: %v, called %v", helpers, calls)
	}
}
