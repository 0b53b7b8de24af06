package tests

import (
	"fmt"
	"go/ast"
	"slices"
	"strconv"
	"strings"
	"testing"

	"loop.example/g00544/impl"
)

func takenOf(l []string) takenAnswers { return takenAnswers{impl.TakesIn(l), impl.Taken(l)} }

func sameTaken(a takenAnswers, b takenAnswers) bool {
	return a.count == b.count && slices.Equal(a.said, b.said)
}

func showTaken(a takenAnswers) string { return fmt.Sprintf("%d, %s", a.count, shortPlay(a.said)) }

// checkTaken holds the program against the slow reading, and tells what it says.
func checkTaken(t *testing.T, l []string) takenAnswers {
	t.Helper()
	got := takenOf(l)
	if want := takenSlowly(l); !sameTaken(got, want) {
		t.Errorf("%s: %s; read slowly %s", shortPlay(l), showTaken(got), showTaken(want))
	}
	return got
}

func checkNothingTaken(t *testing.T, l []string) {
	t.Helper()
	if got := takenOf(l); got.count != -1 || len(got.said) > 0 {
		t.Errorf("%s: %s", shortPlay(l), showTaken(got))
	}
}

func checkTakenAsItIs(t *testing.T, l []string) {
	t.Helper()
	if got := takenOf(l); got.count != 0 || !slices.Equal(got.said, l) {
		t.Errorf("%s: %s", shortPlay(l), showTaken(got))
	}
}

func TestTaken(t *testing.T) {
	for _, c := range takenCases() {
		l, again := signsOf(t, c.page), signsOf(t, piecesPage(c.again))
		got := checkTaken(t, l)
		if !slices.Equal(got.said, again) {
			t.Errorf("%s: %s; want %s", c.page, shortPlay(got.said), impl.ShowSigns(again))
		}
		if got.count != c.count {
			t.Errorf("%s: %d takes; want %d", c.page, got.count, c.count)
		}
		for _, said := range [][]string{l, got.said} {
			if words := impl.Words(checkShow(t, said, impl.MaxFuel)); words != c.words {
				t.Errorf("%s says %q; want %q", shortPlay(said), words, c.words)
			}
		}
	}
}

func TestTakenWhereNothingIsTaken(t *testing.T) {
	checkTakenAsItIs(t, nil)
	checkTakenAsItIs(t, []string{})
	for _, page := range nothingTaken() {
		checkTakenAsItIs(t, signsOf(t, page))
		checkTaken(t, signsOf(t, page))
	}
	for _, a := range arounds() {
		for _, deed := range newDeeds() {
			l := signsOf(t, a.with(first(deed.alone())))
			if a.adds != "take" && deed.word != "take" {
				checkTakenAsItIs(t, l)
			}
			checkTaken(t, l)
		}
	}
}

func first(a string, _ string) string { return a }

func TestTakesIn(t *testing.T) {
	for _, c := range []struct {
		page string
		want int64
	}{
		{"", 0}, {"(say 1)", 0}, {"(say 'take')", 0}, {"(let taken 1)", 0}, {"(let a (get (thing 1) 0))", 0}, {"(run (fn ((x 1))))", 0}, {"(vars a b)", 0},
		{"(take (a) 1)", 1}, {"(take (a b c) (thing))", 1}, {"(say 1) (take (a) 1) (say 2)", 1}, {"(vars a) (take (b) a)", 1},
		// Beside each other.
		{"(take (a) 1) (take (b) 2)", 2}, {"(take (a) 1) (do (take (a) 2))", 2}, {"(take (a b) 1) (do) (take (c) 2) (do (take (a) 3) (take (b c d) 4)) (take (d) 5)", 5},
		// Within each other.
		{"(take (a) (fn () (take (a) 1)))", 2}, {"(take (a) (fn () (take (b) (fn () (take (c) 1) (take (d) 2)))))", 4}, {"(take (a) (thing (fn () (take (a) 1)) (fn ()) (fn () (take (a) 2)))) (take (b) 3)", 4}, {"(take (a) (fn ((x (fn () (take (a) 1)))) (take (a) 2)))", 3},
		// In whatever stands around.
		{"(do (do (take (a) 1)))", 1}, {"(run (fn () (take (a) 1)))", 1}, {"(if (fn () (take (a) 1)) (do (take (a) 2)) (do (take (a) 3)))", 3}, {"(while (fn () (take (a) 1)) (do (take (a) 2)))", 2}, {"(for i (fn () (take (a) 1)) (fn () (take (a) 2)) (do (take (a) i)))", 3}, {"(run (call (fn () (take (a) 1)) (fn () (take (a) 2))))", 2}, {"(let a (fn () (take (a) 1))) (set a (fn () (take (a) 2))) (back (join (fn () (take (a) 3))))", 3},
		// Where it is not Scoped, whatever is taken in it.
		{"(say q)", -1}, {"(take (a) q)", -1}, {"(take (a a) 1)", -1}, {"(take (a) 1) (take (a) 2)", -1}, {"(take (a) 1) (let a 2)", -1}, {"(vars a) (take (a) 1)", -1}, {"(take (a) 1) (vars b)", -1}, {"(take (a) (fn () (leave)))", -1}, {"(do (take (a) 1)) (say a)", -1}, {"(take (a) 1) (run (hget a 1))", -1}, {"(take (v0) v1)", -1},
		// What is no play.
		{"take", -1}, {"(take)", -1}, {"(take (a))", -1}, {"(take a 1)", -1}, {"(take () 1)", -1}, {"(take (a) 1 2)", -1}, {"(take (a) (take (b) 1))", -1}, {"(take (a) (do))", -1}, {"(take (5) 1)", -1}, {"(take (none) 1)", -1}, {"(take (take) 1)", -1}, {"(take ((a)) 1)", -1}, {"(take (a 1) 1)", -1}, {"(say (take (a) 1))", -1}, {"(if 1 (take (a) 1) (do))", -1}, {"(if 1 (do) (take (a) 1))", -1}, {"(while 1 (take (a) 1))", -1}, {"(for i 0 1 (take (a) 1))", -1}, {"(take (a) 1", -1}, {"(take (a) 1))", -1}, {"(run take)", -1}, {"(", -1}, {")", -1}, {"5", -1},
	} {
		if got := impl.TakesIn(signsOf(t, c.page)); got != c.want {
			t.Errorf("%s: %d; want %d", c.page, got, c.want)
		}
		checkTaken(t, signsOf(t, c.page))
	}
}

// Of each thing that Scoped asks for, that one alone broken, beside and within
// what is taken.
func TestTakenOfWhatIsNotScoped(t *testing.T) {
	for _, broken := range slices.Concat(brokenPages(), []string{
		"(take (x) v0)", "(take (x y x) (thing 1 2 3))", "(do (take (x) 1)) (say x)", "(take (x) 1) (do) (take (y x) 2)", "(take (x) (hget x 1))", "(hidden x) (run x) (take (y) x)", "(take (x) 1) (vars y)", "(run (fn () (take (x) 1) (vars y)))", "(while 1 (do (take (x) (fn () (next)))))", "(take (x) (fn (y y)))", "(run (fn () (vars x) (take (x) 1)))",
	}) {
		for _, page := range []string{
			broken, "(take (b) 1) " + broken, broken + " (do (take (b c) (thing)))", "(do " + broken + " (do (take (b) 1) (take (c) b)))", "(run (fn () (take (b) 1) " + broken + "))", "(take (b) (fn () " + broken + "))",
		} {
			l := signsOf(t, page)
			if !impl.PlayOk(l) || impl.Scoped(l) {
				t.Errorf("%s: the test itself is wrong", page)
			}
			checkNothingTaken(t, l)
			checkTaken(t, l)
		}
	}
}

func TestTakenOfWhatIsNoPlay(t *testing.T) {
	play := signsOf(t, "(take (b) (thing (fn ((c 1)) (take (d) (thing c)) (back d))))")
	for _, page := range []string{
		"a", "5", "'a'", "none", "+", "(", ")", "( )", "take", "(+ 1 2)", "(thing 1)", "(take)", "(take (a))", "(take a 1)", "(take () 1)", "(take () (thing))", "(take (a) 1 2)", "(take 1 (a))", "(take (a) (take (e) 1))", "(take (a) (let e 1))", "(take (5) 1)", "(take ('a') 1)", "(take (none) 1)", "(take (take) 1)", "(take (let) 1)", "(take ((a)) 1)", "(take (a (e)) 1)", "(take (a) ())", "(take (a) ((thing)))", "(take (a) 1", "(take (a 1)", "(take (a) 1))", "(do (take (a) 1)", ")(",
		"(say (take (a) 1))", "(run take)", "(set take 1)", "(let take 1)", "(if 1 (take (a) 1) (do))", "(if 1 (do) (take (a) 1))", "(while 1 (take (a) 1))", "(for i 0 1 (take (a) 1))", "((take (a) 1))", "(say 1) 5", "(run (fn (take) (do)))", "(run (fn ((take 1)) (do)))", "(hidden take)", "(hget take 1)",
	} {
		l := signsOf(t, page)
		for _, list := range [][]string{l, slices.Concat(play, l), slices.Concat(l, play), slices.Concat([]string{"(", "do"}, play, l, []string{")"})} {
			checkNothingTaken(t, list)
		}
	}
	for _, bad := range wrongSigns() {
		for _, list := range [][]string{{bad}, slices.Concat(play, []string{bad}), slices.Concat([]string{bad}, play), signsWith("(take (X) 1)", bad), signsWith("(take (a X) 1)", bad), signsWith("(take (a) X)", bad), signsWith("(X (a) 1)", bad), signsWith("(take (a) 1) (say X)", bad), signsWith("(take (a) (thing 1 X))", bad)} {
			checkNothingTaken(t, list)
		}
	}
	for _, l := range itemLists(t) {
		if len(l) > 0 && !impl.PlayOk(l) {
			checkNothingTaken(t, l)
		}
	}
	for _, n := range []int{impl.MaxSigns, 100000} {
		for _, l := range [][]string{within(n, "(", "take", ")"), within(n, "(", "", ""), within(n, "( take", "", ")"), within(n, "( take ( a )", "1", ")"), within(n, "( take ( a ) ( fn ( )", "", ") )"), within(n, ")", "", "("), slices.Repeat([]string{"take"}, n), slices.Repeat([]string{"(", "take"}, n), slices.Repeat(play, n)} {
			checkNothingTaken(t, l)
		}
	}
}

// Another sign at each place: other names, and words that make another form.
func TestTakenWithOneSignChanged(t *testing.T) {
	scoped := 0
	for _, c := range takenCases() {
		l := signsOf(t, c.page)
		for at := range l {
			for _, other := range []string{"a", "b", "v0", "v1", "1", "none", "take", "let", "do", "thing", "vars", "A"} {
				changed := slices.Clone(l)
				changed[at] = other
				if checkTaken(t, changed).count >= 0 {
					scoped++
				}
			}
			checkTaken(t, slices.Delete(slices.Clone(l), at, at+1))
		}
		if t.Failed() {
			return
		}
	}
	if scoped < 2000 {
		t.Errorf("only %d were Scoped", scoped)
	}
}

// F of each take, in the order in which they begin: those of FreshMany, whoever
// has some of them already.
func TestTakenTakesTheFirstFreshNames(t *testing.T) {
	pages := []string{
		"(take (a) (thing OWN)) (take (b) (thing OWN)) (do (take (c) (thing a)) (take (d) b))",
		"(take (a) (fn () (take (a) OWN) (take (b) (fn () (take (c) OWN) (back c))))) (take (b) OWN)",
		"(do (take (a) OWN)) (run (fn ((x (fn () (take (a) OWN)))) (take (b) x))) (for i 0 1 (do (take (a) i) (take (b) OWN)))",
	}
	for _, page := range pages {
		for bits := range 1 << 6 {
			var own []string
			for n := range 6 {
				if bits>>n&1 == 1 {
					own = append(own, "v"+strconv.Itoa(n))
				}
			}
			own = append(own, "v12", "v00", "w0")
			l := signsOf(t, "(let "+strings.Join(own, " 1) (let ")+" 1) "+strings.ReplaceAll(page, "OWN", own[0]))
			got := checkTaken(t, l)
			want := impl.FreshMany(l, got.count)
			var is []string
			for at, sign := range got.said {
				if sign == "let" && !slices.Contains(l, got.said[at+1]) {
					is = append(is, got.said[at+1])
				}
			}
			if !slices.Equal(is, want) || !slices.Equal(is, freshManySlowly(l, got.count)) || len(is) < 4 {
				t.Fatalf("%s: %q; want %q", shortPlay(l), is, want)
			}
		}
	}
}

// A depthOfTaken is a play with something DEEP in it, and the depth of what
// stands around that, which saying it again leaves as it is.
type depthOfTaken struct {
	page   string
	before int
	isSum  bool
}

func depthsOfTaken() []depthOfTaken {
	return []depthOfTaken{
		{"DEEP", 0, false}, {"(take (a) 1) DEEP", 0, false}, {"DEEP (take (a) 1)", 0, false}, {"(do (take (a b) 1) DEEP)", 1, false}, {"(take (a) (fn () DEEP))", 2, false}, {"(take (a) (fn () (take (a) (fn () DEEP))))", 4, false}, {"(run (fn ((x (fn () (take (a) 1) DEEP)))))", 5, false}, {"(say 1) (do (take (a) 1)) (do (do DEEP))", 2, false}, {"(while 1 (do (take (a b c) (fn () DEEP))))", 4, false},
		{"(take (a) DEEP)", 1, true}, {"(take (a b) (thing 1 DEEP))", 2, true}, {"(do) (take (a) DEEP) (do)", 1, true}, {"(do (take (a) 1) (take (b) (thing (thing DEEP))))", 4, true}, {"(take (a) (fn () (take (b) DEEP)))", 3, true}, {"(run DEEP) (take (a) 1)", 1, true}, {"(run (fn ((x DEEP)) (take (a) x)))", 4, true},
	}
}

func (d depthOfTaken) with(t *testing.T, deep int) []string {
	return depthOfGiven{page: d.page, isSum: d.isSum}.with(t, deep)
}

func TestTakenAtMaxDepth(t *testing.T) {
	for _, d := range depthsOfTaken() {
		for deep := 50; deep <= impl.MaxDepth+2; deep++ {
			got := checkTaken(t, d.with(t, deep))
			if is := d.before+deep <= impl.MaxDepth; (got.count >= 0) != is || (len(got.said) > 0) != is {
				t.Errorf("%s, %d deep: %s", d.page, deep, showTaken(got))
			}
		}
	}
	// The NAMEs of a take are as deep as the get that they become.
	for _, inside := range []string{"( take ( a ) 1 )", "( take ( a b c ) 1 )", "( take ( a ) 1 ) ( take ( b ) 2 )", "( take ( a ) ( thing ) )", "( say 1 ) ( take ( a ) a )"} {
		for n, is := range map[int]bool{0: true, 1: true, 57: true, 58: true, 59: false, 60: false} {
			l := within(n, "( do", inside, ")")
			got := checkTaken(t, l)
			if (got.count >= 1) != is || (len(got.said) > 0) != is {
				t.Errorf("%s in %d dos: %s", inside, n, showTaken(got))
			}
		}
	}
}

func TestTakenAtMaxSigns(t *testing.T) {
	for _, c := range []struct {
		page         string
		takes, names int
	}{
		{"FILL", 0, 0}, {"(run (fn (x) FILL))", 0, 0}, {"(take (a) 1) FILL", 1, 1}, {"FILL (take (a) 1)", 1, 1}, {"(take (a b) 1) FILL", 1, 2}, {"(take (a) (fn () FILL))", 1, 1}, {"(take (a b c) 1) (do (take (a) 1) FILL) (take (d) 2)", 3, 5},
		{"(take (a) (fn () (take (b) (fn () (take (c d) 1) FILL))))", 3, 4}, {"(run (fn ((x (fn () (take (a) 1)))) FILL (take (b) x)))", 2, 2}, {"(for i 0 1 (do (take (a b) i) FILL)) (while 1 (do (take (a b) 1)))", 2, 4},
	} {
		// Each NAME has 8 signs more, and each take 1 less.
		more := 8*c.names - c.takes
		for _, signs := range []int{150, impl.MaxSigns - more - 1, impl.MaxSigns - more, impl.MaxSigns - more + 1, impl.MaxSigns - 1, impl.MaxSigns, impl.MaxSigns + 1} {
			l := filledUp(c.page, signs)
			count := int64(c.takes)
			if signs > impl.MaxSigns {
				count = -1
			}
			got, saysIt := takenOf(l), signs+more <= impl.MaxSigns
			if len(l) != signs || got.count != count || saysIt && len(got.said) != signs+more || !saysIt && len(got.said) > 0 {
				t.Errorf("%s with %d signs: %d, %d signs", c.page, len(l), got.count, len(got.said))
			}
			if c.takes == 0 && saysIt && !slices.Equal(got.said, l) {
				t.Errorf("%s with %d signs is not as it is", c.page, len(l))
			}
			if saysIt {
				checkTaken(t, l)
			}
		}
	}
}

// As many as there may be: takes beside each other, NAMEs of one take, and takes
// within each other.
func TestTakenOfMany(t *testing.T) {
	for n := range 290 {
		var takes, pieces []string
		for at := range n {
			name := "a" + strconv.Itoa(at)
			takes, pieces = append(takes, "(take ("+name+") 1)"), append(pieces, fmt.Sprintf("[v%d %s: 1]", at, name))
		}
		want := takenAnswers{count: int64(n)}
		if 14*n <= impl.MaxSigns {
			want.said = signsOf(t, piecesPage(strings.Join(pieces, " ")))
		}
		if 7*n > impl.MaxSigns {
			want.count = -1
		}
		if got := takenOf(wordsOf(strings.Join(takes, " "))); !sameTaken(got, want) {
			t.Errorf("%d beside each other: %d, %d signs", n, got.count, len(got.said))
		}
	}
	for _, n := range []int{1, 2, 9, 10, 11, 60, 61, 99, 100, 101, 220, 221, 222, 223, 1994, 1995} {
		names := strings.Join(manyOf(n, func(at int64) string { return fmt.Sprintf("a%d", at) }), " ")
		want := takenAnswers{count: 1}
		if 5+9*n <= impl.MaxSigns {
			want.said = signsOf(t, piecesPage("[v0 "+names+": 1]"))
		}
		if 6+n > impl.MaxSigns {
			want.count = -1
		}
		if got := takenOf(wordsOf("(take (" + names + ") 1)")); !sameTaken(got, want) {
			t.Errorf("%d NAMEs: %d, %d signs; want %d", n, got.count, len(got.said), len(want.said))
		}
	}
	for n := range 40 {
		for _, page := range []string{"( take ( a ) ( fn ( )|( say 1 )|) )", "( take ( a b ) ( fn ( )|( say a )|( take ( c ) a ) ) )", "( take ( d ) 1 ) ( take ( a ) ( thing ( call ( fn ( )|( back ( thing 2 ) )|( back ( thing d ) ) ) ) ) )"} {
			parts := strings.Split(page, "|")
			checkTaken(t, slices.Concat([]string{"(", "let", "a", "1", ")", "(", "do"}, within(n, parts[0], parts[1], parts[2]), []string{")"}))
		}
	}
}

// checkPromiseThirteen asks that Taken says the same, and that there are no takes
// any more; it tells with which Fault both end, with MaxFuel.
func checkPromiseThirteen(t *testing.T, l []string) int64 {
	t.Helper()
	taken := impl.Taken(l)
	if !impl.Scoped(taken) || impl.TakesIn(taken) != 0 || len(taken) == 0 && len(l) > 0 {
		t.Fatalf("%s: %s", shortPlay(l), shortPlay(taken))
	}
	wasNew := slices.DeleteFunc(impl.NewIn(l), func(word string) bool { return word == "take" || word == "let" })
	if impl.TakesIn(l) > 0 || impl.Count(l, "let") > 0 {
		wasNew = append(wasNew, "let")
	}
	if isNew := impl.NewIn(taken); !slices.Equal(isNew, wasNew) {
		t.Fatalf("%s: %q are new; want %q", shortPlay(taken), isNew, wasNew)
	}
	if again := impl.Taken(taken); !slices.Equal(again, taken) {
		t.Fatalf("%s: once more %s", shortPlay(taken), shortPlay(again))
	}
	first, second := impl.Played(l, impl.MaxFuel), impl.Played(taken, impl.MaxFuel)
	if impl.TakesIn(l) == 0 != slices.Equal(taken, l) {
		t.Fatalf("%s: %s", shortPlay(l), shortPlay(taken))
	}
	checkSaysTheSame(t, l, taken, fuelsFor(first, second)...)
	if first.Fault == second.Fault && slices.Equal(first.Said, second.Said) {
		return first.Fault
	}
	// It has more Steps and more Cells, so that it may come to no end where the
	// play comes to one.
	if impl.Ended(second) {
		t.Fatalf("%s: %s; said again %s", shortPlay(l), showShow(first), showShow(second))
	}
	return second.Fault
}

// Promise 13: Taken says the same, and there are no takes any more.
func TestTakenSaysTheSame(t *testing.T) {
	for _, c := range takenCases() {
		l := signsOf(t, c.page)
		checkPromiseThirteen(t, l)
		// With each fuel, by both players.
		taken := impl.Taken(l)
		slow, slowTaken := slowPlayOf(l), slowPlayOf(taken)
		for fuel := range min(impl.Played(taken, impl.MaxFuel).Steps, 400) + 3 {
			a, b := impl.Played(l, fuel), impl.Played(taken, fuel)
			if !impl.Alike(a, b) || !alikeSlowly(slow.played(fuel), slowTaken.played(fuel)) {
				t.Fatalf("%s with fuel %d: %s; said again %s", c.page, fuel, showShow(a), showShow(b))
			}
		}
	}
	for _, page := range nothingTaken() {
		checkPromiseThirteen(t, signsOf(t, page))
	}
}

// manyTaken has each let that stands in a row of lets taken at once with the
// others, and each name be one of the fresh ones or near them.
func manyTaken(l []string) []string {
	signs := signsOfTrees(inOneTake(blockOf(playTree(l))))
	return alphaOf(signs).called(func(n int) string { return "v" + strconv.Itoa(n*2) })
}

func inOneTake(list []tree) []tree {
	var out []tree
	for at := 0; at < len(list); at++ {
		if list[at].head() != "let" {
			n := list[at]
			out = append(out, tree{n.sign, n.isList, inOneTake(n.within)})
			continue
		}
		names, sums := tree{isList: true}, tree{isList: true, within: []tree{{sign: "thing"}}}
		for ; at < len(list) && list[at].head() == "let"; at++ {
			names.within = append(names.within, list[at].within[1])
			sums.within = append(sums.within, inOneTake(list[at].within[2:])...)
		}
		at--
		out = append(out, tree{isList: true, within: []tree{{sign: "take"}, names, sums}})
	}
	return out
}

func TestTakenOfMadePlaysSaysTheSame(t *testing.T) {
	t.Parallel()
	ends, takes, several := map[int64]int{}, 0, 0
	check := func(n int, l []string) {
		if len(impl.Taken(l)) == 0 && impl.TakesIn(l) > 0 {
			checkTaken(t, l)
			return
		}
		fault := checkPromiseThirteen(t, l)
		if impl.TakesIn(l) > 0 {
			ends[fault]++
			takes++
		}
		if impl.TakesIn(l) > 3 {
			several++
		}
		if n%3 == 0 {
			checkTaken(t, l)
		}
	}
	for n, l := range playsToAsk(t, 400) {
		check(n, l)
		check(n, manyTaken(l))
	}
	for fault := range int64(6) {
		if ends[fault] < 3 {
			t.Errorf("only %d of %d end with %d", ends[fault], takes, fault)
		}
	}
	if takes < 600 || several < 100 {
		t.Errorf("only %d have takes, %d more than three", takes, several)
	}
}

// Each list of NAMEs, each kind of SUM, in each place where a take may stand.
func TestTakenOfEachKindOfSum(t *testing.T) {
	sums := []string{
		"(thing)", "(thing 1)", "(thing 1 2)", "(thing 1 2 3)", "(thing 1 2 3 4)", "t", "(get t 1)", "5", "'ab'", "none", "(table)", "(fn () (back 1))", "(+ 1 none)", over, "(tget (table) t)", "(thing 1 (+ 1 none))",
		"a", "(thing a)", "(thing 1 a)", "(thing (fn () (back a)))", "(call (fn () (set a 3) (back (thing 1 a))))", "(call (fn () (say 's') (back (thing 's' 2))))", "(call (fn () (say 's')))", "(call (fn () (take (a b c) (thing 7 8)) (back (thing b a))))", "(call (fn () (take (d) 5) (back t)))", "(call (fn (x) (take (b) x) (take (x) (thing b)) (back (thing x b))) t)", "(call (fn ((x (call (fn () (take (y) t) (back y))))) (back (thing x))))",
	}
	names := []string{"a", "a b", "b a", "a b c", "c a"}
	arounds := []string{
		"HERE", "(do HERE) (say 'z')", "(if 1 (do HERE) (say 'e'))", "(if 0 (say 'e') (do HERE))", "(for i 0 2 (do (say i) HERE))", "(let n 0) (while (< n 2) (do (set n (+ n 1)) HERE (say n)))", "(say (call (fn () HERE (back 'k'))))", "(let f (fn ((p t)) HERE (back a))) (run (call f)) (run (call f 5))", "(take (o) (thing (call (fn () HERE (back a))))) (say (= o t))", "(say (call (fn ((q (call (fn () HERE (back 4))))) (back q))))", "(take (v0) t) (do (let v1 v0) HERE (say v1))", "(let g (fn () HERE)) (for i 0 2 (run (call g)))",
	}
	asked, ends := 0, map[int64]int{}
	for _, around := range arounds {
		for _, sum := range sums {
			for _, name := range names {
				said := "(say '" + strings.ReplaceAll(name, " ", "') (say '") + "')"
				for _, inside := range []string{"(take (" + name + ") " + sum + ") " + said, "(take (" + name + ") " + sum + ") (say (join " + name + "))", "(say a) (take (" + name + ") " + sum + ") (set a 9) (do (take (" + name + ") (thing a 6))) (say a)"} {
					l := signsOf(t, "(let t (thing 4 (thing 5)))"+strings.ReplaceAll(around, "HERE", inside))
					taken := impl.Taken(l)
					if !impl.Scoped(l) || impl.TakesIn(l) == 0 || impl.TakesIn(taken) != 0 || len(taken) == 0 {
						t.Fatalf("%s: %s", shortPlay(l), shortPlay(taken))
					}
					asked++
					checkSaysTheSame(t, l, taken, 0, 1, 12, 31, impl.MaxFuel)
					a, b := impl.Played(l, impl.MaxFuel), impl.Played(taken, impl.MaxFuel)
					if a.Fault != b.Fault || !slices.Equal(a.Said, b.Said) {
						t.Fatalf("%s: %s; said again %s", shortPlay(l), showShow(a), showShow(b))
					}
					ends[a.Fault]++
				}
			}
		}
	}
	if asked < 4000 || ends[impl.FtNone] < 1000 || ends[impl.FtKind] < 1000 || ends[impl.FtOver] < 100 || ends[impl.FtKey] < 100 {
		t.Errorf("%d were asked: %v", asked, ends)
	}
}

// Whatever stands within whatever stands within whatever.
func TestTakenWithinOneAnother(t *testing.T) {
	t.Parallel()
	arounds := []string{
		"(do (take (a) (thing (+ a 1))) HERE (say 'd'))", "(if b (do (take (c) (thing b)) HERE (say c)) (say 'e'))", "(for a 1 3 (do (take (b) (thing a)) HERE (say (join a b))))", "(while (< b 4) (do (set b (+ b 1)) (take (a c) (thing b)) HERE (say 'w')))", "(say (call (fn () (take (a) (thing 2)) HERE (back a))))", "(take (d e) (thing (call (fn () HERE (back b))) a))", "(do (take (d) (call (fn () (take (b) (thing a)) HERE (back (thing b))))) (say d))", "(run (call (fn ((d (call (fn () HERE (back a))))) (take (a) (thing d)) (say a))))", "(do (let f (fn (t) (take (a b) t) HERE)) (run (call f (thing 3))) (run (call f (thing 2 1))))", "(run (call (fn (g) (take (h) (thing g)) (run (call h)) (run (call g))) (fn () (take (b) (thing (+ b 1))) HERE)))", "(do HERE)",
	}
	insides := []string{"(say (join a b))", "(back a)", "(set a (+ b 1))", "(do (take (a b) (thing b a)) (say (join a b)))", "(do (take (z) a))", "(if (< b 3) (next) (leave))", "(back (call (fn () (take (y) (thing (fn () (take (x) (thing 1)) (back x)))) (back (call y)))))"}
	put := func(around string, inside string) string { return strings.ReplaceAll(around, "HERE", inside) }
	asked := 0
	for _, outer := range arounds {
		for _, middle := range arounds {
			for n, inner := range arounds {
				for m, inside := range insides {
					l := signsOf(t, "(let b 1) (let a 1) (do "+put(outer, put(middle, put(inner, inside)))+") (say a)")
					if !impl.Scoped(l) {
						continue
					}
					if (n+m)%4 == 0 {
						checkTaken(t, l)
					}
					taken := impl.Taken(l)
					if impl.TakesIn(taken) != 0 {
						t.Fatalf("%s: %s", shortPlay(l), shortPlay(taken))
					}
					asked++
					checkSaysTheSame(t, l, taken, 0, 1, 60, 400, 3000)
				}
			}
			if t.Failed() {
				return
			}
		}
	}
	if asked < 7000 {
		t.Errorf("only %d were asked", asked)
	}
}

// Where something other than Cells is made too often, it is so at the same place.
func TestTakenEndsWithTooMuchAtTheSamePlace(t *testing.T) {
	for _, page := range []string{
		"(let f (fn (n) (take (x) (thing n)) (say x) (run (call f (+ n 1))))) (run (call f 1))", "(let f (fn (n) (say n) (take (x) (call f (+ n 1))))) (run (call f 1))", "(while 1 (do (take (x) (thing 1)) (say x)))",
		"(let n 0) (while 1 (do (take (x) (thing (fn ()))) (set n (+ n 1)) (if (< 990 n) (say n) (do))))", "(let n 0) (while 1 (do (take (x) (thing (thing))) (set n (+ n 1)) (if (< 490 n) (say n) (do))))", "(let n 0) (while 1 (do (take (x) (thing (table))) (set n (+ n 1)) (if (< 190 n) (say n) (do))))", "(let n 0) (let t (thing)) (while 1 (do (take (x) t) (put t n x) (set n (+ n 1)) (if (< 50 n) (say n) (do))))",
	} {
		l := signsOf(t, page)
		a, b := impl.Played(l, impl.MaxFuel), impl.Played(impl.Taken(l), impl.MaxFuel)
		if a.Fault != impl.FtMany || b.Fault != impl.FtMany || !slices.Equal(a.Said, b.Said) || len(a.Said) == 0 {
			t.Errorf("%s: %s; said again %s", page, showShow(a), showShow(b))
		}
		checkPromiseThirteen(t, l)
	}
}

// F has a Cell of its own, and its deeds have more Steps: there is no room or no
// fuel sooner, which is no end that says otherwise.
func TestTakenMayComeToNoEnd(t *testing.T) {
	for _, c := range []struct{ page, words, again string }{
		{"(let t (thing 1)) (for i 0 1300 (do (take (a) t) (if (= i 1200) (say i) (do)))) (say 'z')", "1200/z end", "1200/z end"},
		{"(let t (thing 1)) (for i 0 1500 (do (take (a) t) (if (= i 1200) (say i) (do)))) (say 'z')", "1200/z end", "1200 many"},
		{"(let t (thing 1)) (for i 0 1500 (do (take (a) t) (if (= i 1200) (say i) (do)))) (say (+ 1 t))", "1200 kind", "1200 many"},
		{"(let t (thing 1)) (for i 0 2100 (do (take (a) t) (if (= i 1999) (say i) (do)))) (say 'z')", "many", "many"},
		{"(let t (thing 1 2 3)) (let f (fn (n) (take (a b c) t) (if (= n 900) (say b) (do)))) (let n 0) (while (< n 950) (do (set n (+ n 1)) (run (call f n)))) (say 'z')", "2/z end", "fuel"},
	} {
		l := signsOf(t, c.page)
		taken := impl.Taken(l)
		a, b := checkShow(t, l, impl.MaxFuel), checkShow(t, taken, impl.MaxFuel)
		if impl.Words(a) != c.words || impl.Words(b) != c.again {
			t.Errorf("%s: %s; said again %s", shortPlay(l), showShow(a), showShow(b))
		}
		checkPromiseThirteen(t, l)
	}
}

// Promise 21, for the functions of chapter 13, from here on.
func takenLists(t *testing.T) [][]string {
	lists := append(oldLists(t), madePlays(60)...)
	for _, c := range takenCases() {
		lists = append(lists, signsOf(t, c.page), signsOf(t, piecesPage(c.again)))
	}
	for _, page := range nothingTaken() {
		lists = append(lists, signsOf(t, page))
	}
	for _, signs := range []int{impl.MaxSigns - 7, impl.MaxSigns - 6, impl.MaxSigns, impl.MaxSigns + 1} {
		lists = append(lists, filledUp("(take (a) 1) FILL", signs), filledUp("FILL (take (a) 1)", signs), filledUp("FILL", signs))
	}
	for _, deep := range []int{58, 59, 60} {
		lists = append(lists, depthsOfTaken()[9].with(t, deep))
	}
	return append(lists, []string{"A"}, []string{"(", "take", "(", "a", ")"}, []string{"(", "take", "(", "a"}, []string{"(", "take"}, []string{"take"}, []string{"(", "take", ")"}, []string{"(", "take", "(", ")", "1", ")"})
}

func TestTakenLeavesWhatIsGiven(t *testing.T) {
	for _, list := range takenLists(t) {
		l, room := roomy(list)
		was := slices.Clone(room)
		answer, count := impl.Taken(l), impl.TakesIn(l)
		kept := slices.Clone(answer)
		if !slices.Equal(room, was) {
			t.Fatalf("%s became %s", shortList(was), shortList(room))
		}
		overwritten(impl.Taken(l))
		if !slices.Equal(room, was) || !slices.Equal(answer, kept) {
			t.Fatalf("%s: an answer shares memory with another one, or with what was given", shortPlay(l))
		}
		overwritten(l)
		if !slices.Equal(answer, kept) {
			t.Fatalf("%s: %s became %s", shortPlay(list), shortPlay(kept), shortPlay(answer))
		}
		copy(room, was)
		overwritten(answer)
		if again := takenOf(l); !sameTaken(again, takenAnswers{count, kept}) || !slices.Equal(room, was) {
			t.Fatalf("%s: %s, and again %s", shortPlay(l), shortPlay(kept), showTaken(again))
		}
	}
}

// What is asked again is answered again, whatever was asked between.
func TestTakenKeepsNothing(t *testing.T) {
	cases := takenCases()
	for range 2 {
		for _, c := range cases {
			want := takenAnswers{c.count, signsOf(t, piecesPage(c.again))}
			if got := takenOf(signsOf(t, c.page)); !sameTaken(got, want) {
				t.Fatalf("%s: %s; want %s", c.page, showTaken(got), showTaken(want))
			}
			checkNothingTaken(t, signsOf(t, c.page+" (say q0)"))
			checkTakenAsItIs(t, signsOf(t, piecesPage(c.again)))
		}
		slices.Reverse(cases)
	}
}

// What stands in the spare room behind a play is no part of it: no take there is
// counted, and no name there is anybody's.
func TestTakenDoesNotReadTheSpareRoom(t *testing.T) {
	whole := signsOf(t, "(say 1) (take (a) 1) (do (take (a v0) (fn () (take (b) 2))))")
	for n := range len(whole) + 1 {
		checkTaken(t, whole[:n])
		checkTaken(t, slices.Clip(whole[:n]))
	}
	for _, c := range []struct {
		length int
		count  int64
	}{{0, 0}, {3, -1}, {4, 0}, {10, -1}, {11, 1}, {12, -1}, {len(whole) - 1, -1}, {len(whole), 3}} {
		if got := impl.TakesIn(whole[:c.length]); got != c.count {
			t.Errorf("the first %d: %d", c.length, got)
		}
	}
	if got, want := impl.Taken(whole[:11]), signsOf(t, "(say 1) (let v0 1) (let a (get v0 0))"); !slices.Equal(got, want) {
		t.Errorf("the first 11: %s", shortPlay(got))
	}
}

// The line "take" of the document's chapter Ways.
func TestSignsAreCutByThreeIndicesAndCopied(t *testing.T) {
	path := "../impl/l13_take.go"
	if !hasNode(t, path, func(n ast.Node) bool {
		slice, is := n.(*ast.SliceExpr)
		return is && slice.Slice3
	}) {
		t.Error("no signs are cut by three indices in the layer of what is taken to pieces")
	}
	if !hasCall(t, path, "copy") {
		t.Error("no signs are copied in the layer of what is taken to pieces")
	}
}
