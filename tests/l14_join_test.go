package tests

import (
	"fmt"
	"go/ast"
	"slices"
	"strings"
	"testing"

	"loop.example/g00544/impl"
)

func unjoinedOf(l []string) joinAnswers { return joinAnswers{impl.JoinsIn(l), impl.Unjoined(l)} }

func sameUnjoined(a joinAnswers, b joinAnswers) bool {
	return a.count == b.count && slices.Equal(a.said, b.said)
}

func showUnjoined(a joinAnswers) string { return fmt.Sprintf("%d, %s", a.count, shortPlay(a.said)) }

// checkUnjoined holds the program against the slow reading, and tells what it
// says.
func checkUnjoined(t *testing.T, l []string) joinAnswers {
	t.Helper()
	got := unjoinedOf(l)
	if want := unjoinedSlowly(l); !sameUnjoined(got, want) {
		t.Errorf("%s: %s; read slowly %s", shortPlay(l), showUnjoined(got), showUnjoined(want))
	}
	return got
}

func checkNothingUnjoined(t *testing.T, l []string) {
	t.Helper()
	if got := unjoinedOf(l); got.count != -1 || len(got.said) > 0 {
		t.Errorf("%s: %s", shortPlay(l), showUnjoined(got))
	}
}

func checkUnjoinedAsItIs(t *testing.T, l []string) {
	t.Helper()
	if got := unjoinedOf(l); got.count != 0 || !slices.Equal(got.said, l) {
		t.Errorf("%s: %s", shortPlay(l), showUnjoined(got))
	}
}

func TestUnjoined(t *testing.T) {
	for _, c := range joinCases() {
		l, again := signsOf(t, c.page), signsOf(t, chainPage(c.again))
		got := checkUnjoined(t, l)
		if !slices.Equal(got.said, again) {
			t.Errorf("%s: %s; want %s", c.page, shortPlay(got.said), impl.ShowSigns(again))
		}
		if got.count != c.count {
			t.Errorf("%s: %d joins; want %d", c.page, got.count, c.count)
		}
		for _, said := range [][]string{l, got.said} {
			if words := impl.Words(checkShow(t, said, impl.MaxFuel)); words != c.words {
				t.Errorf("%s says %q; want %q", shortPlay(said), words, c.words)
			}
		}
	}
}

func TestUnjoinedWhereNothingIsJoined(t *testing.T) {
	checkUnjoinedAsItIs(t, nil)
	checkUnjoinedAsItIs(t, []string{})
	for _, page := range nothingJoined() {
		checkUnjoinedAsItIs(t, signsOf(t, page))
		checkUnjoined(t, signsOf(t, page))
	}
	for _, a := range arounds() {
		for _, deed := range newDeeds() {
			l := signsOf(t, a.with(first(deed.alone())))
			if a.adds != "join" && deed.word != "join" {
				checkUnjoinedAsItIs(t, l)
			}
			checkUnjoined(t, l)
		}
	}
}

func TestJoinsIn(t *testing.T) {
	for _, c := range []struct {
		page string
		want int64
	}{
		{"", 0}, {"(say 1)", 0}, {"(say 'join')", 0}, {"(let joins 1)", 0}, {"(say (& 1 2))", 0}, {"(say (& '' ''))", 0}, {"(run (fn ((x 1))))", 0}, {"(hidden joined)", 0},
		{"(say (join))", 1}, {"(say (join 1))", 1}, {"(say (join 1 2 3))", 1}, {"(say 1) (say (join 'join')) (say 2)", 1}, {"(vars a) (set a (join a a))", 1},
		// Beside each other.
		{"(say (join)) (say (join))", 2}, {"(say (& (join) (join 1)))", 2}, {"(run (thing (join) 1 (join 1 2) (join)))", 3}, {"(say (join)) (do (say (join 1)) (do) (say (join 2))) (say (join 1 2))", 4},
		// Within each other.
		{"(say (join (join)))", 2}, {"(say (join (join (join (join)))))", 4}, {"(say (join 1 (join (join) 2 (join 3 (join))) (join)))", 6}, {"(say (join (& (join) 1) (get (thing (join)) 0)))", 3}, {"(say (join (fn () (say (join)) (say (join (join))))))", 4}, {"(say (join (fn ((x (join))) (back (join x)))))", 3},
		// In whatever stands around.
		{"(do (do (say (join))))", 1}, {"(let a (join)) (set a (join)) (take (b) (join)) (back (join))", 4}, {"(if (join) (say (join)) (say (join)))", 3}, {"(while (join) (say (join)))", 2}, {"(for i (join) (join) (say (join i)))", 3}, {"(run (call (join) (join)))", 2}, {"(put (join) (join) (join))", 3}, {"(tput (join) (join) (join))", 3}, {"(hidden p) (hput p (join) (join)) (run (hget p (join)))", 3}, {"(run (get (join) (join))) (run (tget (join) (join)))", 4}, {"(run (fn ((x (join)) y (z (join x))) (vars) (say (join))))", -1}, {"(run (fn ((x (join)) y (z (join x))) (say (join))))", 3},
		// Where it is not Scoped, whatever is put together in it.
		{"(say q)", -1}, {"(say (join q))", -1}, {"(say (join 1 (join q)))", -1}, {"(say (join)) (say q)", -1}, {"(say (join)) (leave)", -1}, {"(say (join (fn () (next))))", -1}, {"(let a (join)) (let a (join))", -1}, {"(do (let a (join))) (say (join a))", -1}, {"(say (join)) (vars a)", -1}, {"(run (join (fn (a a))))", -1}, {"(run (hget p (join)))", -1}, {"(hidden p) (say (join p))", -1},
		// What is no play.
		{"join", -1}, {"(join)", -1}, {"(join 1 2)", -1}, {"(say join)", -1}, {"(say (join join))", -1}, {"(say (join (say 1)))", -1}, {"(say (join (do)))", -1}, {"(say (join ()))", -1}, {"(say ((join)))", -1}, {"(say (join 1)", -1}, {"(say (join 1)))", -1}, {"(say (join +))", -1}, {"(let join 1)", -1}, {"(run (fn (join)))", -1}, {"(run (fn ((join 1))))", -1}, {"(say (join) (join))", -1}, {"(hidden join)", -1}, {"(do (join))", -1}, {"(if (join) (join) (do))", -1}, {"(", -1}, {")", -1}, {"5", -1},
	} {
		if got := impl.JoinsIn(signsOf(t, c.page)); got != c.want {
			t.Errorf("%s: %d; want %d", c.page, got, c.want)
		}
		checkUnjoined(t, signsOf(t, c.page))
	}
}

// Of each thing that Scoped asks for, that one alone broken, beside and within
// what is put together.
func TestUnjoinedOfWhatIsNotScoped(t *testing.T) {
	for _, broken := range slices.Concat(brokenPages(), []string{
		"(say (join z))", "(say (join 1 (join 2 z) 3))", "(run (join (fn (x x))))", "(run (join (fn () (leave))))", "(while 1 (run (join (fn () (next)))))", "(run (join (hget z 1)))", "(run (join (fn () (do) (vars x))))", "(run (join (fn ((x 1)) (vars y))))", "(run (join (fn () (let x 1) (let x 2))))", "(do (let x (join))) (say (join x))",
	}) {
		for _, page := range []string{
			broken, "(say (join)) " + broken, broken + " (say (join 1 2))", "(do " + broken + " (do (say (join 1 (join)))))", "(run (fn () (say (join)) " + broken + "))", "(say (join 1 (fn () " + broken + ") 2))",
		} {
			l := signsOf(t, page)
			if !impl.PlayOk(l) || impl.Scoped(l) {
				t.Errorf("%s: the test itself is wrong", page)
			}
			checkNothingUnjoined(t, l)
			checkUnjoined(t, l)
		}
	}
}

func TestUnjoinedOfWhatIsNoPlay(t *testing.T) {
	play := signsOf(t, "(say (join 1 (join) (call (fn ((c (join 'a'))) (back (join c 2))))))")
	for _, page := range []string{
		"a", "5", "'a'", "none", "+", "(", ")", "( )", "join", "(+ 1 2)", "(join)", "(join 1)", "(join (join))", "((join))", "(say join)", "(say (join join))", "(say (join) 1)", "(say 1 (join))", "(say (join)) 5", "(say (join (say 1)))", "(say (join (let a 1)))", "(say (join ()))", "(say (join (1)))", "(say (join ((join))))", "(say ((join)))", "(say (join +))", "(say (join & 1 2))", "(say (& (join)))", "(say (join)", "(say (join 1)", "(say (join 1)))", "(say (join (join 1))", "(do (say (join))", ")(",
		"(let join 1)", "(set join 1)", "(take (join) 1)", "(run (fn (join)))", "(run (fn ((join 1))))", "(for join 0 1 (do))", "(hidden join)", "(vars join)", "(run (hget join 1))", "(do (join))", "(if 1 (join) (do))", "(while 1 (join 1))", "(for i 0 1 (join))", "(run (fn () (join)))",
	} {
		l := signsOf(t, page)
		for _, list := range [][]string{l, slices.Concat(play, l), slices.Concat(l, play), slices.Concat([]string{"(", "do"}, play, l, []string{")"})} {
			checkNothingUnjoined(t, list)
		}
	}
	for _, bad := range wrongSigns() {
		for _, list := range [][]string{{bad}, slices.Concat(play, []string{bad}), slices.Concat([]string{bad}, play), signsWith("(say (join X))", bad), signsWith("(say (join X 1))", bad), signsWith("(say (join 1 X))", bad), signsWith("(say (join 1 (join X) 2))", bad), signsWith("(say (X 1))", bad), signsWith("(X (join 1))", bad), signsWith("(say (join)) (say X)", bad)} {
			checkNothingUnjoined(t, list)
		}
	}
	for _, l := range itemLists(t) {
		if len(l) > 0 && !impl.PlayOk(l) {
			checkNothingUnjoined(t, l)
		}
	}
	for _, n := range []int{impl.MaxSigns, 100000} {
		for _, l := range [][]string{within(n, "(", "join", ")"), within(n, "( join", "", ")"), within(n, "( join", "", ""), within(n, "( say ( join ( fn ( )", "", ") ) )"), slices.Concat([]string{"(", "say"}, within(n, "( join", "1", ")"), []string{")"}), slices.Concat([]string{"(", "say"}, within(n, "( join 1", "", "2 )"), []string{")"}), slices.Concat([]string{"(", "say", "(", "join"}, slices.Repeat([]string{"1"}, n), []string{")", ")"}), slices.Repeat([]string{"join"}, n), slices.Repeat([]string{"(", "join"}, n), slices.Repeat(play, n)} {
			checkNothingUnjoined(t, l)
		}
	}
}

// Another sign at each place: words that make another form, and other sums.
func TestUnjoinedWithOneSignChanged(t *testing.T) {
	scoped := 0
	for _, c := range joinCases() {
		l := signsOf(t, c.page)
		for at := range l {
			for _, other := range []string{"a", "x", "1", "none", "''", "join", "&", "do", "thing", "call", "A"} {
				changed := slices.Clone(l)
				changed[at] = other
				if checkUnjoined(t, changed).count >= 0 {
					scoped++
				}
			}
			checkUnjoined(t, slices.Delete(slices.Clone(l), at, at+1))
		}
		if t.Failed() {
			return
		}
	}
	if scoped < 2000 {
		t.Errorf("only %d were Scoped", scoped)
	}
}

// depthsOfJoined have something DEEP at each place of a join: each SUM behind it
// is one more & around it.
func depthsOfJoined() []depthOfGiven {
	return []depthOfGiven{
		{"DEEP", 0, 0, false}, {"(say (join)) DEEP", 0, 0, false}, {"DEEP (say (join 1 2))", 0, 0, false}, {"(do (say (join 1 2)) DEEP)", 1, 1, false}, {"(say (join (fn () DEEP)))", 3, 3, false}, {"(say (join (fn () DEEP) 1))", 3, 4, false}, {"(say (join 1 (fn () DEEP)))", 3, 3, false}, {"(say (join (fn () (say (join (fn () DEEP) 1))) 1))", 6, 8, false},
		{"(say DEEP)", 1, 1, true}, {"(say (join DEEP))", 2, 2, true}, {"(say (join 1 DEEP))", 2, 2, true}, {"(say (join DEEP 1))", 2, 3, true}, {"(say (join 1 DEEP 2))", 2, 3, true}, {"(say (join 1 2 DEEP))", 2, 2, true}, {"(say (join DEEP 1 2))", 2, 4, true}, {"(say (join DEEP 1 2 3 4 5 6))", 2, 8, true}, {"(say (join 1 2 3 DEEP 4 5 6))", 2, 5, true}, {"(say (join 1 2 3 4 5 6 DEEP))", 2, 2, true}, {"(say (join DEEP (join)))", 2, 3, true}, {"(say (join (join) DEEP))", 2, 2, true},
		{"(say (join (join DEEP)))", 3, 3, true}, {"(say (join (join DEEP 1)))", 3, 4, true}, {"(say (join (join DEEP) 1))", 3, 4, true}, {"(say (join (join DEEP 1) 2))", 3, 5, true}, {"(say (join 1 (join 2 DEEP)))", 3, 3, true}, {"(say (join 1 (join DEEP 2) 3))", 3, 5, true}, {"(say (join (join (join DEEP 1) 2) 3))", 4, 7, true},
		{"(say (join (& 1 DEEP) 2))", 3, 4, true}, {"(say (& (join DEEP 1) 2))", 3, 4, true}, {"(run (fn ((x (join 1 DEEP)))))", 5, 5, true}, {"(run (fn ((x (join DEEP 1)))))", 5, 6, true}, {"(say (join (fn ((x (join DEEP 1)))) 1))", 6, 8, true}, {"(while 1 (do (say (join DEEP 1))))", 4, 5, true}, {"(do (say (join DEEP 1)) (say (join DEEP)))", 3, 4, true}, {"(do (say (join DEEP)) (say (join DEEP 1)))", 3, 4, true}, {"(say (join DEEP 1)) (say 1)", 2, 3, true}, {"(say 1) (say (join DEEP 1))", 2, 3, true},
	}
}

func TestUnjoinedAtMaxDepth(t *testing.T) {
	for _, d := range depthsOfJoined() {
		for deep := 48; deep <= impl.MaxDepth+2; deep++ {
			got := checkUnjoined(t, d.with(t, deep))
			isPlay, saysIt := d.before+deep <= impl.MaxDepth, d.after+deep <= impl.MaxDepth
			if (got.count >= 0) != isPlay || (len(got.said) > 0) != saysIt {
				t.Errorf("%s, %d deep: %s", d.page, deep, showUnjoined(got))
			}
		}
	}
	// A join without SUMs is one less deep, but what is too deep ahead of that is no
	// play.
	for inside, depth := range map[string]int{"( join )": 1, "( & ( join ) 1 )": 2, "( & ( & 1 2 ) ( join ) )": 2, "( join ( join ) )": 2, "( join 1 ( join ) )": 2} {
		for dos := range 62 {
			got := checkUnjoined(t, within(dos, "( do", "( say "+inside+" )", ")"))
			if is := dos+1+depth <= impl.MaxDepth; (got.count > 0) != is || (len(got.said) > 0) != is {
				t.Errorf("%s in %d dos: %s", inside, dos, showUnjoined(got))
			}
		}
	}
}

// One join of ever more SUMs, at each depth that lets it be a play: the first SUM
// has as many & around it.
func TestUnjoinedOfManySumsAtMaxDepth(t *testing.T) {
	for _, dos := range []int{0, 1, 2, 30, 56, 57, 58, 59} {
		for sums := range 64 {
			l := within(dos, "( do", "( say ( join "+strings.Repeat("1 ", sums)+") )", ")")
			got := checkUnjoined(t, l)
			isPlay := dos+2 <= impl.MaxDepth
			saysIt := isPlay && dos+1+sums <= impl.MaxDepth
			if (got.count == 1) != isPlay || (len(got.said) > 0) != saysIt {
				t.Errorf("%d SUMs in %d dos: %s", sums, dos, showUnjoined(got))
			}
			if saysIt && !slices.Equal(got.said, within(dos, "( do", "( say "+strings.Repeat("( & ", sums)+"'' "+strings.Repeat("1 ) ", sums)+")", ")")) {
				t.Errorf("%d SUMs in %d dos: %s", sums, dos, showUnjoined(got))
			}
		}
	}
	for _, sums := range []int{100, 661, 662, 663, 664, 665, 1000, 1993, 1994, 1995, 1996} {
		l := slices.Concat([]string{"(", "say", "(", "join"}, slices.Repeat([]string{"1"}, sums), []string{")", ")"})
		want := joinAnswers{count: 1}
		if len(l) > impl.MaxSigns {
			want.count = -1
		}
		if got := unjoinedOf(l); !sameUnjoined(got, want) {
			t.Errorf("%d SUMs: %d, %d signs", sums, got.count, len(got.said))
		}
	}
}

func TestUnjoinedAtMaxSigns(t *testing.T) {
	for _, c := range []struct {
		page        string
		joins, sums int
	}{
		{"FILL", 0, 0}, {"(run (fn (x) FILL))", 0, 0}, {"(say (join)) FILL", 1, 0}, {"FILL (say (join))", 1, 0}, {"(say (join 1)) FILL", 1, 1}, {"FILL (say (join 1))", 1, 1}, {"(say (join 1 2)) FILL", 1, 2}, {"FILL (say (join 1 2 3 4 5))", 1, 5}, {"(say (join (join) (join 1) (join 1 2))) FILL", 4, 6}, {"(say (join (join (join (join)))))FILL", 4, 3},
		{"(say (join (fn () FILL) 1))", 1, 2}, {"(say (join (fn ((x (join))) FILL)))", 2, 1}, {"(say (join 1 (call (fn () (say (join 1 2)) FILL (back (join)))) 3))", 3, 5}, {"(run (join (join))) (run (join)) FILL (run (join))", 4, 1}, {"(for i 0 1 (do (say (join i i)) FILL)) (while 1 (say (join)))", 2, 2},
	} {
		// Each SUM has 3 signs more, and each join 2 less.
		more := 3*c.sums - 2*c.joins
		for _, signs := range []int{150, impl.MaxSigns - more - 1, impl.MaxSigns - more, impl.MaxSigns - more + 1, impl.MaxSigns - 1, impl.MaxSigns, impl.MaxSigns + 1} {
			l := filledUp(c.page, signs)
			count := int64(c.joins)
			if signs > impl.MaxSigns {
				count = -1
			}
			got, saysIt := unjoinedOf(l), signs <= impl.MaxSigns && signs+more <= impl.MaxSigns
			if len(l) != signs || got.count != count || saysIt && len(got.said) != signs+more || !saysIt && len(got.said) > 0 {
				t.Errorf("%s with %d signs: %d, %d signs", c.page, len(l), got.count, len(got.said))
			}
			if c.joins == 0 && saysIt && !slices.Equal(got.said, l) {
				t.Errorf("%s with %d signs is not as it is", c.page, len(l))
			}
			if saysIt {
				checkUnjoined(t, l)
			}
		}
	}
}

// As many as there may be, beside each other and within each other.
func TestUnjoinedOfMany(t *testing.T) {
	for _, c := range []struct{ page, again string }{{"(run (join))", "(run '')"}, {"(run (join 1))", "(run (& '' 1))"}, {"(run (join 1 'a'))", "(run (& (& '' 1) 'a'))"}} {
		one, again := signsOf(t, c.page), signsOf(t, c.again)
		for n := range 2 + impl.MaxSigns/len(one) {
			want := joinAnswers{count: int64(n)}
			if n*len(again) <= impl.MaxSigns {
				want.said = slices.Repeat(again, n)
			}
			if n*len(one) > impl.MaxSigns {
				want = joinAnswers{count: -1}
			}
			if got := unjoinedOf(slices.Repeat(one, n)); !sameUnjoined(got, want) {
				t.Errorf("%s, %d beside each other: %d, %d signs", c.page, n, got.count, len(got.said))
			}
		}
	}
	said := 0
	for n := range 62 {
		for _, page := range []string{"( join|1|)", "( join||)", "( join 1|2|)", "( join|2|1 )", "( join 1|2|3 )", "( join 1 2|3|4 ( join ) )", "( join|( fn ( ) ( back ( join ) ) )|)", "( join ( call ( fn ( ) ( back|1|) ) ) )", "( & ( join|1|) 2 )"} {
			parts := strings.Split(page, "|")
			got := checkUnjoined(t, slices.Concat([]string{"(", "say"}, within(n, parts[0], parts[1], parts[2]), []string{")"}))
			if len(got.said) > 0 {
				said++
			}
		}
	}
	if said < 200 {
		t.Errorf("only %d of those within each other are said again", said)
	}
}

// checkPromiseFourteen asks that Unjoined says the same, and that there are no
// joins any more; it tells with which Fault both end, with MaxFuel.
func checkPromiseFourteen(t *testing.T, l []string) int64 {
	t.Helper()
	unjoined := impl.Unjoined(l)
	if !impl.Scoped(unjoined) || impl.JoinsIn(unjoined) != 0 || slices.Contains(unjoined, "join") || len(unjoined) == 0 && len(l) > 0 {
		t.Fatalf("%s: %s", shortPlay(l), shortPlay(unjoined))
	}
	wasNew := slices.DeleteFunc(impl.NewIn(l), func(word string) bool { return word == "join" })
	if isNew := impl.NewIn(unjoined); !slices.Equal(isNew, wasNew) {
		t.Fatalf("%s: %q are new; want %q", shortPlay(unjoined), isNew, wasNew)
	}
	if again := impl.Unjoined(unjoined); !slices.Equal(again, unjoined) {
		t.Fatalf("%s: once more %s", shortPlay(unjoined), shortPlay(again))
	}
	first, second := impl.Played(l, impl.MaxFuel), impl.Played(unjoined, impl.MaxFuel)
	if impl.JoinsIn(l) == 0 != slices.Equal(unjoined, l) || second.Steps < first.Steps {
		t.Fatalf("%s: %s", shortPlay(l), shortPlay(unjoined))
	}
	checkSaysTheSame(t, l, unjoined, fuelsFor(first, second)...)
	if first.Fault == second.Fault && slices.Equal(first.Said, second.Said) {
		return first.Fault
	}
	// It has more Steps, so that it may come to no end where the play comes to one.
	if second.Fault != impl.FtFuel {
		t.Fatalf("%s: %s; said again %s", shortPlay(l), showShow(first), showShow(second))
	}
	return impl.FtFuel
}

// Promise 14: Unjoined says the same, and there are no joins any more.
func TestUnjoinedSaysTheSame(t *testing.T) {
	for _, c := range joinCases() {
		l := signsOf(t, c.page)
		checkPromiseFourteen(t, l)
		// With each fuel, by both players.
		unjoined := impl.Unjoined(l)
		slow, slowUnjoined := slowPlayOf(l), slowPlayOf(unjoined)
		for fuel := range min(impl.Played(unjoined, impl.MaxFuel).Steps, 400) + 3 {
			a, b := impl.Played(l, fuel), impl.Played(unjoined, fuel)
			if !impl.Alike(a, b) || !alikeSlowly(slow.played(fuel), slowUnjoined.played(fuel)) {
				t.Fatalf("%s with fuel %d: %s; said again %s", c.page, fuel, showShow(a), showShow(b))
			}
		}
	}
	for _, page := range nothingJoined() {
		checkPromiseFourteen(t, signsOf(t, page))
	}
}

// manyJoined has each & be a join, each text a join of it, and each say say more.
func manyJoined(l []string) []string {
	return signsOfTrees(inJoins(blockOf(playTree(l))))
}

func inJoins(list []tree) []tree {
	var out []tree
	for _, n := range list {
		n.within = inJoins(n.within)
		join := tree{sign: "join"}
		switch {
		case n.head() == "&":
			n.within[0] = join
		case n.head() == "say":
			n.within[1] = tree{isList: true, within: []tree{join, n.within[1], {sign: "'-'"}, n.within[1]}}
		case textForm.MatchString(n.sign):
			n = tree{isList: true, within: []tree{join, n}}
		}
		out = append(out, n)
	}
	return out
}

func TestUnjoinedOfMadePlaysSaysTheSame(t *testing.T) {
	t.Parallel()
	ends, joins, several := map[int64]int{}, 0, 0
	check := func(n int, l []string) {
		if !impl.Scoped(l) || len(impl.Unjoined(l)) == 0 && impl.JoinsIn(l) > 0 {
			checkUnjoined(t, l)
			return
		}
		fault := checkPromiseFourteen(t, l)
		if impl.JoinsIn(l) > 0 {
			ends[fault]++
			joins++
		}
		if impl.JoinsIn(l) > 3 {
			several++
		}
		if n%3 == 0 {
			checkUnjoined(t, l)
		}
	}
	for n, l := range append(playsToAsk(t, 200), signsOf(t, "(while 1 (run (join 1)))"), signsOf(t, "(say (join)) (while (= (join) '') (do))")) {
		check(n, l)
		check(n, manyJoined(l))
	}
	for fault := range int64(6) {
		if ends[fault] < 3 {
			t.Errorf("only %d of %d end with %d", ends[fault], joins, fault)
		}
	}
	if joins < 400 || several < 100 {
		t.Errorf("only %d have joins, %d more than three", joins, several)
	}
}

// Each kind of join in each place where a sum may stand.
func TestUnjoinedInEachPlace(t *testing.T) {
	for _, form := range append(sumForms(), deedForms()...) {
		head, _, _ := strings.Cut(form[1:], " ")
		if strings.Contains(form, "SUM") && !slices.ContainsFunc(joinPlaces(), func(p joinPlace) bool { return p.form == head }) {
			t.Errorf("%s is no place that is asked", form)
		}
	}
	joins := []string{
		"(join)", "(join 1)", "(join 'a' 'b')", "(join 'a' (thing))", "(join (call (fn () (say 's') (back 'a'))) 'b')", "(join (call (fn () (say 's') (back (table)))) (call (fn () (say 'no'))))", "(join 'a' " + over + " (thing))", "(join (fn ()) (tget (table) (thing)))", "(join (join 'a') (join) 'b')", "(join 'a' (join 'b' (join (join (fn ()))) " + over + "))", "(join " + qText(60) + ")", "(join " + qText(60) + " 'q')",
	}
	ends := map[int64]int{}
	for _, place := range joinPlaces() {
		for _, join := range joins {
			l := signsOf(t, strings.ReplaceAll(place.page, "HERE", join))
			if impl.JoinsIn(l) < 1 {
				t.Fatalf("%s: the test itself is wrong", shortPlay(l))
			}
			checkUnjoined(t, l)
			ends[checkPromiseFourteen(t, l)]++
		}
	}
	if ends[impl.FtNone] < 200 || ends[impl.FtKind] < 200 || ends[impl.FtOver] < 50 {
		t.Errorf("%v", ends)
	}
}

// A kindOfSum is what a SUM says, and what it is: a text, or no text with the
// Fault that comes of it.
type kindOfSum struct {
	page, says, text string
	fault            int64
}

func kindsOfSum() []kindOfSum {
	return []kindOfSum{
		{"7", "", "7", 0}, {"'ab'", "", "ab", 0}, {"''", "", "", 0}, {"none", "", "none", 0}, {"a", "", "v", 0}, {"(join 'j' -1)", "", "j-1", 0}, {qText(29), "", strings.Repeat("q", 29), 0}, {qText(30), "", strings.Repeat("q", 30), 0}, {"(call (fn () (say 's') (back 'k')))", "s", "k", 0},
		{"(thing)", "", "", impl.FtKind}, {"(fn ())", "", "", impl.FtKind}, {"(table)", "", "", impl.FtKind}, {"(call (fn () (say 's') (back (thing))))", "s", "", impl.FtKind}, {"(+ 1 none)", "", "", impl.FtKind}, {over, "", "", impl.FtOver}, {"(tget (table) (thing))", "", "", impl.FtKey},
	}
}

// joinOfKinds is what is said of a join of these, and the Fault it ends with.
func joinOfKinds(kinds []kindOfSum) impl.Show {
	out, text := impl.Show{}, ""
	for _, kind := range kinds {
		if kind.says != "" {
			out.Said = append(out.Said, kind.says)
		}
		text += kind.text
		out.Fault = kind.fault
		if out.Fault == impl.FtNone && len(text) > 60 {
			out.Fault = impl.FtOver
		}
		if out.Fault != impl.FtNone {
			return out
		}
	}
	out.Said = append(out.Said, text, "z")
	return out
}

// Each list of SUMs.
func TestUnjoinedOfEachKindOfSum(t *testing.T) {
	kinds := kindsOfSum()
	byPage := map[string]kindOfSum{}
	var pages []string
	for _, kind := range kinds {
		byPage[kind.page] = kind
		pages = append(pages, kind.page)
	}
	ends := map[int64]int{}
	for _, list := range listsOf(3, pages...) {
		var of []kindOfSum
		for _, page := range list {
			of = append(of, byPage[page])
		}
		want := joinOfKinds(of)
		join := "(join " + strings.Join(list, " ") + ")"
		arounds := []string{"(let a 'v') (say " + join + ") (say 'z')"}
		if len(list) < 3 {
			arounds = append(arounds, "(let a 'v') (let f (fn ((x "+join+")) (say x) (say 'z'))) (run (call f))", "(let a 'v') (while 1 (do (let b "+join+") (say b) (leave))) (say 'z')", "(let a 'v') (take (b) (thing "+join+")) (for i 0 1 (say b)) (say 'z')", "(let a 'v') (say (join (join "+join+"))) (say 'z')", "(let a 'v') (say (join '' (call (fn () (back "+join+"))) '')) (say 'z')")
		}
		for _, page := range arounds {
			l := signsOf(t, page)
			unjoined := impl.Unjoined(l)
			if impl.JoinsIn(l) < 1 || impl.JoinsIn(unjoined) != 0 || len(unjoined) == 0 {
				t.Fatalf("%s: %s", shortPlay(l), shortPlay(unjoined))
			}
			checkSaysTheSame(t, l, unjoined, 0, 1, 7, 11)
			for _, play := range [][]string{l, unjoined} {
				if got := impl.Played(play, impl.MaxFuel); got.Fault != want.Fault || !slices.Equal(got.Said, want.Said) || !impl.Alike(got, want) {
					t.Fatalf("%s: %s; want %s", shortPlay(play), showShow(got), showShow(want))
				}
			}
			ends[want.Fault]++
		}
	}
	if ends[impl.FtNone] < 500 || ends[impl.FtKind] < 1000 || ends[impl.FtOver] < 300 || ends[impl.FtKey] < 200 {
		t.Errorf("%v", ends)
	}
}

// Two or three SUMs that make a text of each length near MaxText, at each place.
func TestUnjoinedOfEachLength(t *testing.T) {
	for ahead := range 62 {
		for _, whole := range []int{58, 59, 60, 61, 62} {
			behind := whole - ahead
			if ahead > 60 || behind < 0 || behind > 60 {
				continue
			}
			for _, sums := range []string{qText(ahead) + " " + qText(behind), qText(ahead) + " '' " + qText(behind), "(join " + qText(ahead) + ") (join " + qText(behind) + ")", qText(ahead) + " (join (join) " + qText(behind) + ")"} {
				l := signsOf(t, "(say (join "+sums+"))")
				want := impl.Show{Said: []string{strings.Repeat("q", whole)}}
				if whole > impl.MaxText {
					want = impl.Show{Fault: impl.FtOver}
				}
				for _, play := range [][]string{l, impl.Unjoined(l)} {
					if got := impl.Played(play, impl.MaxFuel); got.Fault != want.Fault || !slices.Equal(got.Said, want.Said) {
						t.Fatalf("%s: %s; want %s", shortPlay(play), showShow(got), showShow(want))
					}
				}
			}
		}
	}
}

// Whatever stands within whatever stands within whatever.
func TestUnjoinedWithinOneAnother(t *testing.T) {
	t.Parallel()
	arounds := []string{
		"(join HERE)", "(join HERE a 'y')", "(join 'x' HERE a)", "(join a (join) HERE)", "(& HERE (join a))", "(call (fn ((b HERE) (a 2)) (say (join a '-')) (back (join b a))))", "(call (fn () (let a HERE) (for i 0 2 (say (join i a))) (back a)))", "(get (thing (join) HERE) 1)", "(call (fn () (set a (+ a 1)) (while (< a 4) (do (set a (+ a 1)) (say (join a HERE)))) (back (join a))))", "(join (call (fn (t) (take (c b) t) (say (join c)) (back b)) (thing a HERE)))",
	}
	insides := []string{"a", "(join a a)", "(join)", "(thing)", "(join " + over + ")", "(call (fn () (say (join 's' a)) (set a (+ a 1)) (back a)))"}
	put := func(around string, inside string) string { return strings.ReplaceAll(around, "HERE", inside) }
	asked := 0
	for _, outer := range arounds {
		for _, middle := range arounds {
			for n, inner := range arounds {
				for m, inside := range insides {
					l := signsOf(t, "(let a 1) (say "+put(outer, put(middle, put(inner, inside)))+") (say (join a))")
					unjoined := impl.Unjoined(l)
					if (n+m)%4 == 0 {
						checkUnjoined(t, l)
					}
					if impl.JoinsIn(l) < 1 || impl.JoinsIn(unjoined) != 0 || len(unjoined) == 0 {
						t.Fatalf("%s: %s", shortPlay(l), shortPlay(unjoined))
					}
					asked++
					checkSaysTheSame(t, l, unjoined, 0, 1, 30, 300, impl.MaxFuel)
				}
			}
			if t.Failed() {
				return
			}
		}
	}
	if asked < 5000 {
		t.Errorf("only %d were asked", asked)
	}
}

// Where something is made too often, it is so at the same place.
func TestUnjoinedEndsWithTooMuchAtTheSamePlace(t *testing.T) {
	for _, page := range []string{
		"(let f (fn (n) (say (join n)) (run (join 'a' (call f (+ n 1)))))) (run (call f 1))", "(while 1 (say (join 1 2)))", "(let n 0) (while 1 (do (run (join (call (fn () (back 1))))) (set n (+ n 1)) (if (< 990 n) (say (join n)) (do))))", "(let n 0) (while 1 (do (run (join (= (thing) (thing)))) (set n (+ n 1)) (if (< 490 n) (say (join n)) (do))))", "(let n 0) (while 1 (do (run (join 1 (= 1 (table)))) (set n (+ n 1)) (if (< 190 n) (say (join n)) (do))))", "(say (join 'a')) (for i 0 9000 (run (join i)))", "(let t (thing)) (let n 0) (while 1 (do (put t (join n) n) (set n (+ n 1)) (if (< 50 n) (say (join 'n' n)) (do))))",
	} {
		l := signsOf(t, page)
		a, b := impl.Played(l, impl.MaxFuel), impl.Played(impl.Unjoined(l), impl.MaxFuel)
		if a.Fault != impl.FtMany || b.Fault != impl.FtMany || !slices.Equal(a.Said, b.Said) || len(a.Said) == 0 {
			t.Errorf("%s: %s; said again %s", page, showShow(a), showShow(b))
		}
		checkPromiseFourteen(t, l)
	}
}

// Each SUM is a Step more: there is no fuel sooner, which is no end that says
// otherwise.
func TestUnjoinedMayComeToNoEnd(t *testing.T) {
	for _, c := range []struct{ page, words, again string }{
		{"(let n 0) (while (< n 620) (do (set n (+ n 1)) (run (join 1 2 3 4 5 6 7 8)) (if (= n 600) (say n) (do)))) (say 'z')", "600/z end", "600/z end"},
		{"(let n 0) (while (< n 800) (do (set n (+ n 1)) (run (join 1 2 3 4 5 6 7 8)) (if (= n 600) (say n) (do)))) (say 'z')", "600/z end", "600 fuel"},
		{"(let n 0) (while (< n 800) (do (set n (+ n 1)) (run (join 1 2 3 4 5 6 7 8)) (if (= n 600) (say n) (do)))) (say (thing))", "600 kind", "600 fuel"},
		{"(let n 0) (while (< n 800) (do (set n (+ n 1)) (run (join 1 2 3 4 5 6 7 8)) (if (= n 750) (say n) (do)))) (say 'z')", "750/z end", "fuel"},
		{"(for i 0 5000 (run (join i i)))", "many", "fuel"},
	} {
		l := signsOf(t, c.page)
		unjoined := impl.Unjoined(l)
		a, b := checkShow(t, l, impl.MaxFuel), checkShow(t, unjoined, impl.MaxFuel)
		if impl.Words(a) != c.words || impl.Words(b) != c.again {
			t.Errorf("%s: %s; said again %s", shortPlay(l), showShow(a), showShow(b))
		}
		checkPromiseFourteen(t, l)
	}
}

// Promise 21, for the functions of chapter 14, from here on.
func joinLists(t *testing.T) [][]string {
	lists := append(oldLists(t), madePlays(60)...)
	for _, c := range joinCases() {
		lists = append(lists, signsOf(t, c.page), signsOf(t, chainPage(c.again)))
	}
	for _, page := range nothingJoined() {
		lists = append(lists, signsOf(t, page))
	}
	for _, signs := range []int{impl.MaxSigns - 5, impl.MaxSigns - 4, impl.MaxSigns - 3, impl.MaxSigns, impl.MaxSigns + 1} {
		lists = append(lists, filledUp("(say (join 1 2)) FILL", signs), filledUp("FILL (say (join 1 2))", signs), filledUp("(say (join)) FILL", signs), filledUp("FILL", signs))
	}
	for _, deep := range []int{56, 57, 58, 59} {
		lists = append(lists, depthsOfJoined()[11].with(t, deep))
	}
	for _, sums := range []int{58, 59, 60, 1994, 1995} {
		lists = append(lists, slices.Concat([]string{"(", "say", "(", "join"}, slices.Repeat([]string{"1"}, sums), []string{")", ")"}))
	}
	return append(lists, nil, []string{}, []string{"A"}, []string{"(", "say", "(", "join", "1", ")"}, []string{"(", "say", "(", "join"}, []string{"(", "join"}, []string{"join"}, []string{"(", "join", ")"}, []string{"(", "say", "(", "join", "(", ")", ")", ")"})
}

func TestUnjoinedLeavesWhatIsGiven(t *testing.T) {
	for _, list := range joinLists(t) {
		l, room := roomy(list)
		was := slices.Clone(room)
		answer, count := impl.Unjoined(l), impl.JoinsIn(l)
		kept := slices.Clone(answer)
		if !slices.Equal(room, was) {
			t.Fatalf("%s became %s", shortList(was), shortList(room))
		}
		overwritten(impl.Unjoined(l))
		if !slices.Equal(room, was) || !slices.Equal(answer, kept) {
			t.Fatalf("%s: an answer shares memory with another one, or with what was given", shortPlay(l))
		}
		overwritten(l)
		if !slices.Equal(answer, kept) {
			t.Fatalf("%s: %s became %s", shortPlay(list), shortPlay(kept), shortPlay(answer))
		}
		copy(room, was)
		overwritten(answer)
		if again := unjoinedOf(l); !sameUnjoined(again, joinAnswers{count, kept}) || !slices.Equal(room, was) {
			t.Fatalf("%s: %s, and again %s", shortPlay(l), shortPlay(kept), showUnjoined(again))
		}
	}
}

// What is asked again is answered again, whatever was asked between.
func TestUnjoinedKeepsNothing(t *testing.T) {
	cases := joinCases()
	for range 2 {
		for _, c := range cases {
			want := joinAnswers{c.count, signsOf(t, chainPage(c.again))}
			if got := unjoinedOf(signsOf(t, c.page)); !sameUnjoined(got, want) {
				t.Fatalf("%s: %s; want %s", c.page, showUnjoined(got), showUnjoined(want))
			}
			checkNothingUnjoined(t, signsOf(t, c.page+" (say q0)"))
			checkUnjoinedAsItIs(t, signsOf(t, chainPage(c.again)))
		}
		slices.Reverse(cases)
	}
}

// What stands in the spare room behind a play is no part of it: no join there is
// counted, and no SUM there is said.
func TestUnjoinedDoesNotReadTheSpareRoom(t *testing.T) {
	whole := signsOf(t, "(say 1) (say (join 1)) (say (join (join) 'a' (join 2 3)))")
	for n := range len(whole) + 1 {
		checkUnjoined(t, whole[:n])
		checkUnjoined(t, slices.Clip(whole[:n]))
	}
	for _, c := range []struct {
		length int
		count  int64
	}{{0, 0}, {3, -1}, {4, 0}, {9, -1}, {10, -1}, {11, 1}, {12, -1}, {len(whole) - 1, -1}, {len(whole), 4}} {
		if got := impl.JoinsIn(whole[:c.length]); got != c.count {
			t.Errorf("the first %d: %d", c.length, got)
		}
	}
	if got, want := impl.Unjoined(whole[:11]), signsOf(t, "(say 1) (say (& '' 1))"); !slices.Equal(got, want) {
		t.Errorf("the first 11: %s", shortPlay(got))
	}
}

// The line "join" of the document's chapter Ways: a closure that is made of
// another one, and that asks it.
func TestSumsAreClosures(t *testing.T) {
	path := "../impl/l14_join.go"
	named := map[string]bool{}
	hasNode(t, path, func(n ast.Node) bool {
		if spec, is := n.(*ast.TypeSpec); is {
			_, named[spec.Name.Name] = spec.Type.(*ast.FuncType)
		}
		return false
	})
	isClosure := func(e ast.Expr) bool {
		name, is := e.(*ast.Ident)
		return is && named[name.Name]
	}
	if !hasNode(t, path, func(n ast.Node) bool {
		f, is := n.(*ast.FuncDecl)
		if !is || f.Type.Results == nil || !isClosure(f.Type.Results.List[0].Type) {
			return false
		}
		given := map[string]bool{}
		for _, param := range f.Type.Params.List {
			for _, name := range param.Names {
				given[name.Name] = isClosure(param.Type)
			}
		}
		asks := false
		ast.Inspect(f.Body, func(inner ast.Node) bool {
			literal, is := inner.(*ast.FuncLit)
			if !is {
				return true
			}
			ast.Inspect(literal.Body, func(within ast.Node) bool {
				if call, is := within.(*ast.CallExpr); is {
					name, is := call.Fun.(*ast.Ident)
					asks = asks || is && given[name.Name]
				}
				return true
			})
			return true
		})
		return asks
	}) {
		t.Error("no sums are closures in the layer of what is put together")
	}
}
