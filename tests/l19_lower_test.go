package tests

import (
	"fmt"
	"go/ast"
	"math"
	"slices"
	"strings"
	"testing"

	"loop.example/g00544/impl"
)

func lowerOf(l []string) lowerAnswers {
	out := lowerAnswers{lowered: impl.Lowered(l), growth: impl.Growth(l)}
	for n := range out.passes {
		out.passes[n] = impl.Passes(l, int64(n))
	}
	return out
}

func sameLower(a lowerAnswers, b lowerAnswers) bool {
	for n := range a.passes {
		if !slices.Equal(a.passes[n], b.passes[n]) {
			return false
		}
	}
	return slices.Equal(a.lowered, b.lowered) && a.growth == b.growth
}

// showLower tells what Passes says with each n with which it is something else.
func showLower(a lowerAnswers) string {
	out := ""
	for n, said := range a.passes {
		if n == 0 || !slices.Equal(said, a.passes[n-1]) {
			out += fmt.Sprintf("%d: %s; ", n, shortPlay(said))
		}
	}
	if !slices.Equal(a.lowered, a.passes[passCount]) {
		out += "Lowered: " + shortPlay(a.lowered) + "; "
	}
	return out + fmt.Sprintf("growth %d", a.growth)
}

// checkLower holds the program against the slow reading, and tells what it says.
func checkLower(t *testing.T, l []string) lowerAnswers {
	t.Helper()
	got := lowerOf(l)
	if want := lowerSlowly(l); !sameLower(got, want) {
		t.Errorf("%s: %s; read slowly %s", shortPlay(l), showLower(got), showLower(want))
	}
	return got
}

// checkOneByOne asks that Passes with n is what the n-th way alone makes of Passes
// with n - 1, and tells what is said.
func checkOneByOne(t *testing.T, l []string) lowerAnswers {
	t.Helper()
	want := lowerAnswers{growth: -1}
	if impl.Scoped(l) {
		want.passes[0] = l
	}
	for n, again := range programPasses() {
		if len(want.passes[n]) > 0 {
			want.passes[n+1] = again(want.passes[n])
		}
	}
	want.lowered = want.passes[passCount]
	if len(l) == 0 || len(want.lowered) > 0 {
		want.growth = int64(len(want.lowered) - len(l))
	}
	got := lowerOf(l)
	if !sameLower(got, want) {
		t.Fatalf("%s: %s; one by one %s", shortPlay(l), showLower(got), showLower(want))
	}
	return got
}

func nothingLower() lowerAnswers { return lowerAnswers{growth: -1} }

func checkNothingLower(t *testing.T, l []string) {
	t.Helper()
	if got := lowerOf(l); !sameLower(got, nothingLower()) {
		t.Errorf("%s: %s", shortPlay(l), showLower(got))
	}
}

func checkLowerAsItIs(t *testing.T, l []string) {
	t.Helper()
	want := lowerAnswers{lowered: l}
	for n := range want.passes {
		want.passes[n] = l
	}
	if got := checkLower(t, l); !sameLower(got, want) {
		t.Errorf("%s: %s", shortPlay(l), showLower(got))
	}
}

// silentFrom is the first n with which Passes says nothing, one more than the last
// one where there is none.
func (a lowerAnswers) silentFrom() int {
	for n, said := range a.passes {
		if len(said) == 0 {
			return n
		}
	}
	return len(a.passes)
}

func TestLowered(t *testing.T) {
	for _, c := range lowerCases() {
		l, want := signsOf(t, c.page), lowerAnswers{growth: c.growth}
		for n, page := range c.passPages() {
			want.passes[n] = signsOf(t, page)
		}
		want.lowered = want.passes[passCount]
		got := checkLower(t, l)
		if !sameLower(got, want) {
			t.Errorf("%s: %s; want %s", c.page, showLower(got), showLower(want))
		}
		for n, said := range got.passes {
			if n > 0 && slices.Equal(said, got.passes[n-1]) {
				continue
			}
			if words := impl.Words(checkShow(t, said, impl.MaxFuel)); words != c.words {
				t.Errorf("%s says %q; want %q", shortPlay(said), words, c.words)
			}
		}
	}
}

// oldFaults are old plays, and how each fault ends them.
func oldFaults() []playCase {
	return []playCase{
		{page: "(say 1) (back 2) (say 3)", words: "1 end"}, {page: "(vars a) (say a) (set a 'x') (say a)", words: "none/x end"},
		{page: "(say 1) (say (+ 1 none)) (say 2)", words: "1 kind"}, {page: "(vars f) (set f (fn (x) (back (get x 0)))) (say (call f (thing 4))) (say (call f 4))", words: "4 kind"}, {page: "(say 1) (run (call 5))", words: "1 kind"},
		{page: "(say 1) (say " + over + ") (say 2)", words: "1 over"}, {page: "(vars n) (set n 3) (while n (do (say n) (set n (- n 1)) (if (= n 1) (set n (* 99999 99999)) (do))))", words: "3/2 over"},
		{page: "(vars m) (set m (table)) (say 1) (say (tget m (thing))) (say 2)", words: "1 key"}, {page: "(vars m t) (set m (table)) (set t (thing)) (tput m t 5) (say (tget m t)) (tput m (thing) 6) (say (tget m (thing)))", words: "5 key"},
		{page: "(say 1) (while 1 (do))", words: "1 fuel"}, {page: "(vars n) (set n 0) (while 1 (set n (+ n 1)))", words: "fuel"},
		{page: "(vars f) (set f (fn (n) (if (= n 39) (say n) (do)) (back (call f (+ n 1))))) (run (call f 0))", words: "39 many"}, {page: "(vars t n) (set t (thing)) (set n 0) (say 1) (while 1 (do (put t n n) (set n (+ n 1))))", words: "1 many"},
	}
}

// oldPlays are pages that are OldOk.
func oldPlays() []string {
	out := slices.Concat(oldTongue(), []string{"(do)", "(do (do))", "(vars)", "(say 'let')", "(vars v0 v1 v2) (set v0 (fn (v3) (vars v4) (set v4 v3) (back (+ v4 v1))))"})
	for _, c := range oldFaults() {
		out = append(out, c.page)
	}
	return out
}

func TestLoweredOfWhatIsOld(t *testing.T) {
	for _, page := range oldPlays() {
		l := signsOf(t, page)
		if !impl.OldOk(l) {
			t.Errorf("%s: the test itself is wrong", page)
		}
		checkLowerAsItIs(t, l)
		checkPromiseNineteen(t, l)
	}
	for _, c := range oldFaults() {
		for _, said := range [][]string{signsOf(t, c.page), impl.Lowered(signsOf(t, c.page))} {
			if words := impl.Words(checkShow(t, said, impl.MaxFuel)); words != c.words {
				t.Errorf("%s says %q; want %q", c.page, words, c.words)
			}
		}
	}
	// What has been said again is old.
	for _, c := range lowerCases() {
		checkLowerAsItIs(t, impl.Lowered(signsOf(t, c.page)))
	}
}

// checkNothingNew asks that there is nothing of what the ways so far take away in
// what each of them says, all else as it was, and that the last one's is old.
func checkNothingNew(t *testing.T, l []string, got lowerAnswers) {
	t.Helper()
	left, isLet := impl.NewIn(l), func(word string) bool { return word == "let" }
	left = slices.DeleteFunc(left, isLet)
	for n, said := range got.passes {
		left = slices.DeleteFunc(left, func(word string) bool { return slices.Contains(goneBehind(n), word) })
		if len(said) == 0 {
			return
		}
		isNew := impl.NewIn(said)
		if !slices.Equal(slices.DeleteFunc(slices.Clone(isNew), isLet), left) || n == passCount && slices.ContainsFunc(isNew, isLet) || n >= passCount-1 && impl.Captured(said) {
			t.Fatalf("%s: behind %d there are new: %q in %s", shortPlay(l), n, isNew, shortPlay(said))
		}
	}
	if !impl.OldOk(got.lowered) || len(impl.NewIn(got.lowered)) > 0 || !oldSlowly(got.lowered).old {
		t.Fatalf("%s: %s is not old", shortPlay(l), shortPlay(got.lowered))
	}
}

// checkPassesSayTheSame asks it of each of the ways that makes something else of
// the play.
func checkPassesSayTheSame(t *testing.T, l []string, fuels ...int64) lowerAnswers {
	t.Helper()
	got := checkOneByOne(t, l)
	checkNothingNew(t, l, got)
	for n, said := range got.passes {
		if len(said) > 0 && (n == passCount || !slices.Equal(said, got.passes[max(n-1, 0)])) {
			checkSaysTheSame(t, l, said, fuels...)
		}
	}
	return got
}

// checkPromiseNineteen asks that Lowered is old and says the same, and so do all
// Passes; it tells with which Fault what Lowered says ends, with MaxFuel.
func checkPromiseNineteen(t *testing.T, l []string) int64 {
	t.Helper()
	first, second := impl.Played(l, impl.MaxFuel), impl.Played(impl.Lowered(l), impl.MaxFuel)
	got := checkPassesSayTheSame(t, l, fuelsFor(first, second)...)
	if len(got.lowered) == 0 && len(l) > 0 {
		t.Fatalf("%s: %s", shortPlay(l), showLower(got))
	}
	if impl.Ended(first) && impl.Ended(second) && (first.Fault != second.Fault || !slices.Equal(first.Said, second.Said)) {
		t.Fatalf("%s: %s; said again %s", shortPlay(l), showShow(first), showShow(second))
	}
	return second.Fault
}

// Promise 19: Lowered is old and says the same; so do all Passes.
func TestLoweredSaysTheSame(t *testing.T) {
	ends := map[int64]int{}
	for _, c := range lowerCases() {
		l := signsOf(t, c.page)
		ends[checkPromiseNineteen(t, l)]++
		// With each fuel, by both players.
		lowered := impl.Lowered(l)
		slow, slowLowered := slowPlayOf(l), slowPlayOf(lowered)
		for fuel := range min(impl.Played(lowered, impl.MaxFuel).Steps, 300) + 3 {
			a, b := impl.Played(l, fuel), impl.Played(lowered, fuel)
			if !impl.Alike(a, b) || !alikeSlowly(slow.played(fuel), slowLowered.played(fuel)) {
				t.Fatalf("%s with fuel %d: %s; said again %s", c.page, fuel, showShow(a), showShow(b))
			}
		}
	}
	for fault := range int64(6) {
		if ends[fault] == 0 {
			t.Errorf("none ends with %d", fault)
		}
	}
}

// Each new word alone, in each surrounding.
func TestLoweredOfEachNewWord(t *testing.T) {
	asked := 0
	for _, a := range arounds() {
		for _, deed := range newDeeds() {
			page, isNew := deed.alone()
			l := signsOf(t, a.with(page))
			if !slices.Equal(impl.NewIn(l), inOrderOfTelling(a.adds, isNew)) {
				t.Errorf("%s: the test itself is wrong", shortPlay(l))
			}
			if got := checkLower(t, l); got.silentFrom() <= passCount {
				t.Errorf("%s: %s", shortPlay(l), showLower(got))
			}
			checkPassesSayTheSame(t, l, 0, 1, 4, 9, impl.MaxFuel)
			asked++
		}
	}
	if asked < 200 {
		t.Errorf("only %d were asked", asked)
	}
}

// A lowerTally is how many were said again, how much of them was new, and how they
// ended.
type lowerTally struct {
	asked, silent int
	words         map[string]int
	captured      int
	ends          map[int64]int
}

func newLowerTally() *lowerTally { return &lowerTally{words: map[string]int{}, ends: map[int64]int{}} }

// ask is for plays that may become too long or too deep; each so many of them are
// read slowly, too.
func (c *lowerTally) ask(t *testing.T, l []string, each int) {
	t.Helper()
	if c.asked++; c.asked%each == 0 {
		checkLower(t, l)
	}
	first := impl.Played(l, impl.MaxFuel)
	got := checkPassesSayTheSame(t, l, 0, 1, 30, 100, first.Steps/2, first.Steps, impl.MaxFuel)
	if len(got.lowered) == 0 {
		c.silent++
		return
	}
	for _, word := range impl.NewIn(l) {
		c.words[word]++
	}
	if impl.Captured(got.passes[passCount-2]) {
		c.captured++
	}
	second := impl.Played(got.lowered, impl.MaxFuel)
	c.ends[second.Fault]++
}

func (c *lowerTally) check(t *testing.T, asked int, silent int, words int, ends ...int) {
	t.Helper()
	if c.asked < asked || c.silent > silent || c.captured < words {
		t.Errorf("%+v", c)
	}
	for _, word := range strings.Fields(newOrder) {
		if c.words[word] < words {
			t.Errorf("%s is in %d of them: %+v", word, c.words[word], c)
		}
	}
	for fault, least := range ends {
		if c.ends[int64(fault)] < least {
			t.Errorf("%d end with %d: %+v", c.ends[int64(fault)], fault, c)
		}
	}
}

// Any two beside one another, and within one another, with each deed in them.
func TestLoweredOfAnyTwo(t *testing.T) {
	t.Parallel()
	c := newLowerTally()
	for n, one := range newThings() {
		for m, other := range newThings() {
			for k, deed := range thingsInside() {
				for _, page := range []string{one.with(other.with(deed)), one.with("(say 'h')") + " " + other.with(deed)} {
					l := signsOf(t, thingsAhead+page+" (say a) (say k) (say l)")
					if (n+m+k)%2 == 0 && impl.Scoped(l) {
						c.ask(t, l, 9)
					}
				}
			}
		}
	}
	c.check(t, 1500, 0, 300, 800, 100, 10, 50)
}

// manyThings is one newThing of each word, those ahead within those behind, each
// so many places on in the list of them.
func manyThings(from int, each int, deed string) string {
	things := newThings()
	out, words := deed, []string{}
	for n := range things {
		if one := things[(from+n*each)%len(things)]; !slices.Contains(words, one.word) {
			out, words = one.with(out), append(words, one.word)
		}
	}
	return out
}

// All at once: within one another, and beside one another.
func TestLoweredOfAllAtOnce(t *testing.T) {
	t.Parallel()
	c := newLowerTally()
	things := newThings()
	for from := range things {
		for each := 1; each < len(things); each++ {
			for k, deed := range thingsInside() {
				if (from+each+k)%9 != 0 {
					continue
				}
				if l := signsOf(t, thingsAhead+manyThings(from, each, deed)); impl.Scoped(l) {
					c.ask(t, l, 7)
				}
				var beside []string
				for n := range things {
					beside = append(beside, things[(from+n*each)%len(things)].with("(do)"))
				}
				beside[each] = strings.ReplaceAll(things[(from+each*each)%len(things)].page, "HERE", deed)
				if l := signsOf(t, thingsAhead+strings.Join(beside, " ")+" (say l)"); impl.Scoped(l) {
					c.ask(t, l, 7)
				}
			}
		}
	}
	c.check(t, 300, 0, 300, 100, 30, 4, 10)
}

// Plays made up: as they are, and with more of each new word put into them.
func TestLoweredOfMadePlaysSaysTheSame(t *testing.T) {
	t.Parallel()
	const made = 90
	c, crowded := newLowerTally(), 0
	for n, l := range playsToAsk(t, made) {
		all := [][]string{l, manyHidden(l), manyJoined(l), manyTurned(l), manyCaptured(l), manyLets(l)}
		for m, more := range all {
			if !impl.Scoped(more) || n >= made && m > 0 && m != n%len(all) {
				continue
			}
			c.ask(t, more, 9)
			if (n+m)%3 != 0 {
				continue
			}
			// By few names, and by those that would be fresh.
			a := alphaOf(more)
			c.ask(t, a.called(func(n int) string { return vNumber(int64(n * 2)) }), 9)
			c.ask(t, a.crowded(), 9)
			crowded++
		}
	}
	c.check(t, 1800, 20, 200, 500, 200, 100, 50, 5, 10)
	if crowded < 300 {
		t.Errorf("only %d by few names", crowded)
	}
}

// A limitCase is a page that is longest, or deepest, as one of the ways says it, by
// so many signs, or so deep, more than it is itself; until is the first n with which
// Passes says nothing where that is just what may be.
type limitCase struct {
	page           string
	n, more, until int
}

func longCases() []limitCase {
	const none = passCount + 1
	return []limitCase{
		{"FILL", 0, 0, none}, {"(vars a) FILL", 0, 0, none}, {"(say (join)) FILL", 0, 0, none}, {"(hidden) FILL", 0, 0, none}, {"FILL (do (hidden) (run (thing (join) (join))))", 0, 0, none},
		{"(run (fn ((x 1)) FILL))", 1, 16, none}, {"(run (fn ((x 1) (y 2)))) FILL", 1, 29, none}, {"(say (join)) (run (fn ((x 1)) FILL))", 1, 16, none}, {"(hidden) (hidden) (hidden) (hidden) (hidden) (hidden) (run (fn ((x 1)))) FILL", 1, 16, none}, {"(let a 1) (run (fn ((x 1)) FILL))", 1, 16, 7}, {"(run (fn ((x 1)) (for i 0 1 FILL)))", 1, 16, 5}, {"(run (fn ((x 1)) (say (join 1 2)))) FILL", 1, 16, 3}, {"(hidden p) (run (fn ((x 1)))) FILL", 1, 16, 4}, {"(take (a) 1) (run (fn ((x 1)))) FILL", 1, 16, 2},
		{"(take (a) 1) FILL", 2, 7, 7}, {"(hidden) (hidden) (take (a) 1) FILL", 2, 7, none}, {"(run (fn () (hidden) (hidden) (hidden) (take (a b) 1) FILL))", 2, 15, none}, {"(say (join 1)) (take (a) 1) FILL", 2, 7, 3}, {"(say (join)) (say (join)) (take (a) 1) FILL", 2, 7, 7}, {"(say (join)) (say (join)) (say (join)) (take (a) 1) FILL", 2, 7, none},
		{"(say (join 1)) FILL", 3, 1, none}, {"(say (join 1 2 3)) FILL", 3, 7, none}, {"(say (join)) (say (join (join) 1 2)) FILL", 3, 3, none}, {"(hidden) (say (join 1)) (let a 1) FILL", 3, 1, 7}, {"(hidden p) (say (join 1)) FILL", 3, 1, 4}, {"(run (fn (x) (for i 0 1 (do (say (join i x 'z')) FILL))))", 3, 7, 5},
		{"(hidden p) FILL", 4, 3, 7}, {"(vars a) (hidden p q) FILL", 4, 9, 7}, {"(hidden p) (for i 0 1 (do)) FILL", 4, 3, 5}, {"(let n 0) (while n (do (hidden p) (run (fn () (hput p 1 2))) FILL))", 4, 3, 6},
		{"(for i 0 1 (do)) FILL", 5, 32, 7}, {"(for i 0 1 (for j 0 i FILL))", 5, 64, 7}, {"(for i 0 1 (run (fn () (back i)))) FILL", 5, 32, 6},
		{"(while 1 (do (let k (fn () (back k))))) FILL", 6, 61, 7}, {"(while 1 (do (let k (fn () (back k))) (leave))) FILL", 6, 65, 7}, {"(for i 0 1 (run (fn () (back i)))) FILL", 6, 93, 7},
		{"(let a 1) FILL", 7, 4, none}, {"(vars b) (let a 1) FILL", 7, 1, none}, {"(vars b) (do (let a 1) FILL)", 7, 6, none}, {"(hidden p) FILL", 7, 7, none}, {"(take (a) 1) FILL", 7, 12, none}, {"(for i 0 1 FILL)", 7, 53, none}, {"(run (fn (x) (let y x) FILL))", 7, 4, none},
	}
}

// checkSilent asks that Passes says something just with those n that are below one,
// and what is told with all the others.
func checkSilent(t *testing.T, c limitCase, l []string, from int) lowerAnswers {
	t.Helper()
	got := checkOneByOne(t, l)
	is := got.silentFrom() == from
	for n, said := range got.passes {
		is = is && (len(said) == 0) == (n >= from)
	}
	if !is || (len(got.lowered) == 0) != (from <= passCount) || from <= passCount && got.growth != -1 {
		t.Errorf("%s with %d signs, and %d with %d: %d, growth %d; want %d", c.page, len(l), len(got.passes[c.n]), c.n, got.silentFrom(), got.growth, from)
	}
	return got
}

// Just 2000 signs, and one more, by each of them.
func TestLoweredAtMaxSigns(t *testing.T) {
	t.Parallel()
	asked := map[int]int{}
	for _, c := range longCases() {
		base := checkLower(t, filledUp(c.page, 120))
		before := 0
		for n, said := range base.passes[:c.n] {
			before = max(before, len(said))
			if len(said) == 0 {
				t.Errorf("%s: behind %d nothing is said", c.page, n)
			}
		}
		if len(base.passes[c.n]) != 120+c.more || before >= 120+c.more && c.n > 0 {
			t.Errorf("%s: the test itself is wrong: %d signs, and %d with %d", c.page, before, len(base.passes[c.n]), c.n)
		}
		l := filledUp(c.page, impl.MaxSigns-c.more)
		just, over := checkSilent(t, c, l, c.until), checkSilent(t, c, filledUp(c.page, len(l)+1), c.n)
		for n := range c.n + 1 {
			if more := len(just.passes[n]) - len(base.passes[n]); more != len(l)-120 || n < c.n && len(over.passes[n]) != len(just.passes[n])+1 {
				t.Errorf("%s: with %d there are %d signs, and %d", c.page, n, len(just.passes[n]), len(over.passes[n]))
			}
		}
		if len(just.passes[c.n]) != impl.MaxSigns {
			t.Errorf("%s: %d signs with %d", c.page, len(just.passes[c.n]), c.n)
		}
		checkLower(t, l)
		checkLower(t, filledUp(c.page, len(l)+1))
		asked[c.n]++
	}
	for n := range passCount + 1 {
		if asked[n] < 2 {
			t.Errorf("%d have most signs with %d", asked[n], n)
		}
	}
}

// Just 60 deep, and one more, by each of them that makes something deeper.
func TestLoweredAtMaxDepth(t *testing.T) {
	t.Parallel()
	const none = passCount + 1
	for _, c := range []limitCase{
		{"( do )", 0, 1, none}, {"( say 1 )", 0, 1, none}, {"( take ( a ) 1 )", 0, 2, none}, {"( let a 1 )", 0, 1, none}, {"( do ( let a 1 ) )", 0, 2, none}, {"( run ( fn ( ) ( let a ( + 1 2 ) ) ) )", 0, 4, none}, {"( do ( do ( hidden ) ) )", 0, 3, none}, {"( say ( join ) )", 0, 2, none},
		{"( run ( fn ( ( x 1 ) ) ( do ( do ) ) ) )", 1, 5, none}, {"( run ( fn ( ( x 1 ) ) ( do ( do ( hidden ) ) ) ) )", 1, 6, none}, {"( run ( fn ( ( x 1 ) ) ( do ( say ( join ) ) ) ) )", 1, 6, none}, {"( run ( fn ( ( x 1 ) ) ( do ( say ( join 1 ) ) ) ) )", 1, 6, none}, {"( run ( fn ( ( x 1 ) ) ( do ( say ( join 1 2 ) ) ) ) )", 1, 6, 3}, {"( run ( fn ( ( x 1 ) ) ( do ( do ( hidden p ) ) ) ) )", 1, 6, 4}, {"( run ( fn ( ( x 1 ) ) ( for i 0 1 ( do ( do ) ) ) ) )", 1, 6, 5}, {"( run ( fn ( ( x 1 ) ) ( while 1 ( do ( let k ( fn ( ) ( back k ) ) ) ) ) ) )", 1, 8, 6},
		{"( say ( join 1 2 ) )", 3, 3, none}, {"( say ( join 1 2 3 4 ) )", 3, 5, none}, {"( run ( thing ( join ( join 1 2 ) 3 ) ) )", 3, 6, none}, {"( do ( let a ( join 1 2 ) ) )", 3, 4, none}, {"( for i 0 ( join 1 2 ) ( do ) )", 3, 3, 5}, {"( do ( do ( say ( join 1 2 ) ) ( hidden p ) ) )", 3, 5, none},
		{"( hidden p )", 4, 2, none}, {"( run ( fn ( ) ( hidden p ) ) )", 4, 4, none}, {"( while 1 ( do ( hidden p ) ) )", 4, 4, none}, {"( for i 0 1 ( do ( hidden p ) ) )", 4, 4, 5}, {"( while 1 ( do ( run ( fn ( ) ( hput p 1 2 ) ) ) ( do ( do ( do ( hidden q ) ) ) ) ( hidden p ) ) )", 4, 7, 6},
		{"( for i 0 1 ( do ) )", 5, 5, none}, {"( for i 0 1 ( for j 0 1 ( do ) ) )", 5, 8, none}, {"( for i 0 1 ( do ( do ( do ) ) ) )", 5, 6, none}, {"( for i 0 1 ( run ( fn ( ) ( back i ) ) ) )", 5, 6, 6},
		{"( while 1 ( do ( let k ( fn ( ) ( back k ) ) ) ) )", 6, 8, none}, {"( for i 0 1 ( run ( fn ( ) ( back i ) ) ) )", 6, 9, none}, {"( while 1 ( do ( let k ( fn ( ) ( set k 1 ) ) ) ( do ( do ( do ( do ( leave ) ) ) ) ) ) )", 6, 11, none},
	} {
		for dos := impl.MaxDepth - 8; dos <= impl.MaxDepth+1; dos++ {
			l, until := within(dos, "( do", c.page, ")"), none
			switch {
			case dos+c.more > impl.MaxDepth:
				until = c.n
			case dos+c.more == impl.MaxDepth:
				until = c.until
			}
			// Further from there, one of the others may be the first one.
			if at := dos + c.more - impl.MaxDepth; at == 0 || at == 1 {
				checkSilent(t, c, l, until)
			}
			got := checkLower(t, l)
			if len(got.passes[c.n]) > 0 && deepest(got.passes[c.n]) != int64(dos+c.more) {
				t.Errorf("%s in %d dos: the test itself is wrong", c.page, dos)
			}
		}
	}
}

// deepest is how deep a list of signs is that has no ) too many.
func deepest(l []string) int64 {
	out, open := int64(0), int64(0)
	for _, sign := range l {
		switch sign {
		case "(":
			open++
		case ")":
			open--
		}
		out = max(out, open)
	}
	return out
}

func TestLoweredOfTheEmptyPlay(t *testing.T) {
	for _, l := range [][]string{nil, {}, make([]string, 0, 9), signsOf(t, "(say q)")[:0]} {
		got := checkOneByOne(t, l)
		if got.silentFrom() != 0 || len(got.lowered) > 0 || got.growth != 0 {
			t.Errorf("%q: %s", l, showLower(got))
		}
		checkLower(t, l)
		checkPromiseNineteen(t, l)
		if !impl.OldOk(got.lowered) {
			t.Errorf("%q is not old", got.lowered)
		}
	}
}

// What is all gone can't be told from nothing: so nothing is said of it.
func TestLoweredOfWhatIsAllGone(t *testing.T) {
	for _, page := range []string{"(hidden)", "(hidden) (hidden)", "(hidden) (hidden) (hidden) (hidden)"} {
		l := signsOf(t, page)
		got := checkLower(t, l)
		if got.silentFrom() != 4 || len(got.lowered) > 0 || got.growth != -1 {
			t.Errorf("%s: %s", page, showLower(got))
		}
		for n, said := range got.passes {
			if n < 4 && !slices.Equal(said, l) || n >= 4 && len(said) > 0 {
				t.Errorf("%s with %d: %s", page, n, shortPlay(said))
			}
		}
	}
}

func countsOutOfRange() []int64 {
	return []int64{-1, -2, -7, -8, 8, 9, 14, 15, 100, 1 << 31, 1<<32 + 3, -1 << 31, -1<<32 + 3, 1 << 62, -1<<62 + 7, math.MaxInt64, math.MaxInt64 - 7, math.MinInt64, math.MinInt64 + 7, 256, 263, 1<<16 + 7}
}

func TestPassesWithCountsOutOfRange(t *testing.T) {
	lists := [][]string{nil, {}, {"A"}, signsOf(t, "(say q)"), signsOf(t, "(say 1"), signsOf(t, "(hidden)")}
	for _, page := range oldPlays() {
		lists = append(lists, signsOf(t, page))
	}
	for _, c := range lowerCases() {
		lists = append(lists, signsOf(t, c.page))
	}
	for _, l := range lists {
		for _, n := range countsOutOfRange() {
			if got := impl.Passes(l, n); len(got) > 0 {
				t.Errorf("%s with %d: %s", shortPlay(l), n, shortPlay(got))
			}
		}
	}
}

// Of each thing that Scoped asks for, that one alone broken, beside and within what
// is new.
func TestLoweredOfWhatIsNotScoped(t *testing.T) {
	arounds := []string{"BROKEN", "(say 1) BROKEN", "BROKEN (let b 1)", "(do (let b (join 1)) BROKEN)", "(run (fn ((w 1)) BROKEN))", "(run (fn (w) (take (b) w) BROKEN))", "(for w 0 1 (do (let b w) (run (fn () (back b))) BROKEN))", "(while 1 (do (hidden w) (run (fn () BROKEN))))", "(let b (fn () BROKEN))"}
	for _, broken := range brokenPages() {
		for _, around := range arounds {
			l := signsOf(t, strings.ReplaceAll(around, "BROKEN", broken))
			if !impl.PlayOk(l) {
				t.Errorf("%s: the test itself is wrong", shortPlay(l))
			}
			// What leads out of a loop may do so there.
			if impl.Scoped(l) {
				continue
			}
			checkNothingLower(t, l)
			checkLower(t, l)
		}
		if l := signsOf(t, broken); impl.Scoped(l) {
			t.Errorf("%s: the test itself is wrong", shortPlay(l))
		}
	}
	// What one of the ways would make right by leaving it out, and what is known by
	// a fresh name alone.
	for _, page := range []string{"(say v0)", "(set v0 1)", "(take (a) 1) (say v0)", "(hidden p) (say v0)", "(for i 0 1 (say v0))", "(run (fn ((x v0))))", "(let a v0)", "(let a 1) (say b)", "(hidden p p)", "(hidden p) (hput q 1 2)", "(hidden p) (say p)", "(let p 1) (hput p 1 2)", "(say (join q))", "(do (vars)) (say 1)", "(say 1) (vars)", "(while 1 (run (fn () (leave))))"} {
		l := signsOf(t, page)
		if !impl.PlayOk(l) || impl.Scoped(l) {
			t.Errorf("%s: the test itself is wrong", page)
		}
		checkNothingLower(t, l)
		checkLower(t, l)
	}
}

func TestLoweredOfWhatIsNoPlay(t *testing.T) {
	play := signsOf(t, "(vars a) (let b (join 1)) (take (c) (thing b)) (hidden p) (for i 0 1 (do (let d i) (run (fn ((e d)) (back (hget p e))))))")
	if !impl.Scoped(play) {
		t.Fatal("the test itself is wrong")
	}
	for _, page := range []string{
		"a", "5", "'a'", "none", "+", "(", ")", "( )", "(+ 1 2)", "(join)", "(do", "do)", "(let)", "(let a)", "(let a 1", "(let a 1))", "(take a 1)", "(take () 1)", "(hidden 1)", "(for i 0 1)", "(for i 0 1 (let a 1))", "(run (fn x))", "(run (fn ((x))))", "(say)", "(say 1 2)", "(say (do))", "(if 1 (do))", "(hget p 1)", ")(", "((do))", "(say 1) 5", "(let do 1)", "(let none 1)", "(vars (a))", "(next 1)",
	} {
		l := signsOf(t, page)
		for _, list := range [][]string{l, slices.Concat(play, l), slices.Concat(l, play), slices.Concat([]string{"(", "do"}, play[4:], l, []string{")"}), slices.Concat([]string{"(", "run", "(", "fn", "(", ")"}, play, l, []string{")", ")"})} {
			checkNothingLower(t, list)
		}
	}
	for _, bad := range wrongSigns() {
		for _, list := range [][]string{{bad}, slices.Concat(play, []string{bad}), slices.Concat([]string{bad}, play), signsWith("(say X)", bad), signsWith("(X 1)", bad), signsWith("(let X 1)", bad), signsWith("(say (join X))", bad), signsWith("(hidden X)", bad), signsWith("(for X 0 1 (do))", bad), signsWith("(take (X) 1)", bad), signsWith("(run (fn ((X 1))))", bad), signsWith("(do) X", bad)} {
			checkNothingLower(t, list)
		}
	}
	for _, l := range itemLists(t) {
		if len(l) > 0 && !impl.PlayOk(l) {
			checkNothingLower(t, l)
		}
	}
	for _, n := range []int{impl.MaxSigns, 50000} {
		for _, l := range [][]string{within(n, "(", "let", ")"), within(n, "( do", "( let a 1 )", ")"), within(n, "( let a", "", ""), within(n, ")", "", "("), slices.Repeat([]string{"join"}, n), slices.Repeat([]string{"(", "hidden"}, n), slices.Repeat([]string{"(", "hidden", ")"}, n), slices.Repeat(play, n)} {
			checkNothingLower(t, l)
		}
	}
}

// Another sign at each place: other names, and words that make another form.
func TestLoweredWithOneSignChanged(t *testing.T) {
	t.Parallel()
	said, silent := 0, 0
	for n, c := range lowerCases() {
		l := signsOf(t, c.page)
		for at := range l {
			for m, other := range []string{"a", "b", "f", "n", "v0", "v1", "1", "let", "join", "do", "fn", "run", "hidden", "A"} {
				if (n+at+m)%2 != 0 {
					continue
				}
				changed := slices.Clone(l)
				changed[at] = other
				if got := checkOneByOne(t, changed); len(got.lowered) > 0 {
					said++
					if (n+at+m)%3 == 0 {
						checkLower(t, changed)
					}
					checkNothingNew(t, changed, got)
					checkSaysTheSame(t, changed, got.lowered, 0, 1, 30, 1000)
				} else {
					silent++
				}
			}
			if (n+at)%3 == 0 {
				checkLower(t, slices.Delete(slices.Clone(l), at, at+1))
			}
		}
	}
	if said < 300 || silent < 5000 {
		t.Errorf("%d were said again, %d were not", said, silent)
	}
}

func TestGrowth(t *testing.T) {
	for _, c := range []struct {
		page   string
		growth int64
	}{
		{"", 0},
		// As it is.
		{"(say 1)", 0}, {"(vars a) (set a 1) (say a)", 0}, {"(do)", 0}, {"(while 1 (do (leave)))", 0}, {"(run (fn (x) (vars y) (set y x)))", 0},
		// Longer: by what each way says more.
		{"(let a 1)", 4}, {"(vars b) (let a 1)", 1}, {"(let a 1) (let b 2)", 5}, {"(do (let a 1))", 9}, {"(vars b) (do (let a 1) (let c 2))", 12}, {"(run (fn () (let a 1))) (let b 1)", 8},
		{"(run (fn ((x 1))))", 16}, {"(run (fn (w (x 1) (y 2))))", 29}, {"(run (fn ((x 1)))) (run (fn ((x 1))))", 32},
		{"(take (a) 1)", 12}, {"(take (a b) 1)", 21}, {"(vars c) (take (a) 1)", 9},
		{"(say (join 1))", 1}, {"(say (join 1 2))", 4}, {"(say (join 1 2 3))", 7},
		{"(hidden p)", 7}, {"(hidden p q)", 14}, {"(vars a) (hidden p) (hput p a 1) (say (hget p a))", 4},
		{"(for i 0 1 (do))", 53}, {"(vars a) (for i 0 1 (do))", 50},
		{"(while 1 (do (let k (fn () (back k)))))", 61 + 2 + 5 + 3 + 3}, {"(while 1 (do (let k (fn () (back k))) (leave)))", 65 + 2 + 5 + 3 + 3},
		// Shorter, by one sign, too: that is the same as where it says nothing.
		{"(say (join))", -2}, {"(say (= (join) (join)))", -4}, {"(say 1) (hidden)", -3}, {"(do (hidden) (hidden) (say (join)))", -8}, {"(say (join)) (say (join 1))", -1}, {"(hidden) (say (join 1)) (say (join 1))", -1},
		// As long as it was, and something else.
		{"(say (join)) (say (join 1)) (say (join 1))", 0}, {"(hidden) (say (join 1)) (say (join 1)) (say (join 1))", 0}, {"(let a 1) (run (= (join) (join)))", 0}, {"(vars a) (let b 1) (hidden) (say (join 1)) (say (join 1))", 0},
		// Where it says nothing of what is something.
		{"(hidden)", -1}, {"(hidden) (hidden)", -1}, {"(say q)", -1}, {"(let a 1) (say q)", -1}, {"(leave)", -1}, {"(vars a a)", -1}, {"(say", -1}, {")", -1}, {"a", -1}, {"5", -1}, {"(say (join))) (say 1)", -1},
	} {
		l := signsOf(t, c.page)
		got := checkLower(t, l)
		if got.growth != c.growth || (len(got.lowered) > 0) != (len(l) > 0 && impl.Scoped(l) && wordsBut(l, "( ) hidden")) {
			t.Errorf("%s: %s; want %d", c.page, showLower(got), c.growth)
		}
	}
	for _, l := range [][]string{filledUp("FILL", impl.MaxSigns+1), filledUp("(let a 1) FILL", impl.MaxSigns-3), within(61, "( do", "", ")"), within(60, "( do", "( hidden p )", ")")} {
		if got := impl.Growth(l); got != -1 {
			t.Errorf("%s: %d", shortPlay(l), got)
		}
	}
	if got := impl.Growth(filledUp("(let a 1) FILL", impl.MaxSigns-4)); got != 4 {
		t.Error(got)
	}
}

// wordsBut asks for a sign that is none of these.
func wordsBut(l []string, but string) bool {
	return slices.ContainsFunc(l, func(sign string) bool { return !slices.Contains(strings.Fields(but), sign) })
}

// What is said again has other Steps, Cells, calls, fns and things: there is no room
// or no fuel sooner or later, which is no end that says otherwise.
func TestLoweredMayComeToNoEnd(t *testing.T) {
	for _, c := range []struct{ page, words, again string }{
		{"(for i 0 500 (if (= i 300) (say i) (do))) (say 'z')", "300/z end", "300/z end"},
		{"(for i 0 1250 (if (= i 300) (say i) (do))) (say 'z')", "300/z end", "300 fuel"},
		{"(for i 0 1250 (if (= i 300) (say i) (do))) (say (+ 'z' 1))", "300 kind", "300 fuel"},
		{"(for i 0 600 (do (let x i) (if (= i 400) (say i) (do)) (if (= i 700) (run (fn () (back x))) (do)))) (say 'z')", "400/z end", "400 fuel"},
		{"(let f (fn ((n 0)) (if (= n 39) (say n) (do)) (back (call f (+ n 1))))) (run (call f))", "39 many", "39 many"},
		{"(let n 0) (while (< n 410) (do (set n (+ n 1)) (if (= n 400) (say n) (do)) (next) (let a 1) (let b 1) (let c 1) (let d 1) (let e 1) (let f 1) (let g 1) (let h 1) (let i 1) (let j 1))) (say 'z')", "many", "400/z end"},
		{"(for i 0 450 (do (let x i) (if (= i 300) (say x) (do)) (run (thing)) (run (thing)) (if 0 (run (fn () (back x))) (do)) (next))) (say 'z')", "300/z end", "300 many"},
	} {
		l := signsOf(t, c.page)
		a, b := checkShow(t, l, impl.MaxFuel), checkShow(t, impl.Lowered(l), impl.MaxFuel)
		if impl.Words(a) != c.words || impl.Words(b) != c.again {
			t.Errorf("%s: %s; said again %s", shortPlay(l), showShow(a), showShow(b))
		}
		checkPromiseNineteen(t, l)
	}
}

// Promise 21, for the functions of chapter 19, from here on.
func lowerLists(t *testing.T) [][]string {
	lists := append(oldLists(t), madePlays(40)...)
	for _, c := range lowerCases() {
		lists = append(lists, signsOf(t, c.page), impl.Lowered(signsOf(t, c.page)))
	}
	for _, page := range oldPlays() {
		lists = append(lists, signsOf(t, page))
	}
	for _, c := range longCases() {
		lists = append(lists, filledUp(c.page, impl.MaxSigns-c.more), filledUp(c.page, impl.MaxSigns-c.more+1))
	}
	for _, dos := range []int{56, 57, 58, 59, 60} {
		lists = append(lists, within(dos, "( do", "( hidden p )", ")"), within(dos, "( do", "( for i 0 1 ( do ) )", ")"))
	}
	return append(lists, nil, []string{}, []string{"A"}, []string{"(", "let", "a", "1"}, []string{"(", "let"}, []string{"("}, []string{"(", "hidden", ")"}, []string{"(", "fn", "(", ")", ")"})
}

// overwrittenAll overwrites all lists of the answers.
func (a lowerAnswers) overwrittenAll() {
	for _, said := range a.passes {
		overwritten(said)
	}
	overwritten(a.lowered)
}

func (a lowerAnswers) cloned() lowerAnswers {
	for n := range a.passes {
		a.passes[n] = slices.Clone(a.passes[n])
	}
	a.lowered = slices.Clone(a.lowered)
	return a
}

func TestLoweredLeavesWhatIsGiven(t *testing.T) {
	asItWas := 0
	for _, list := range lowerLists(t) {
		l, room := roomy(list)
		was := slices.Clone(room)
		answer := lowerOf(l)
		kept := answer.cloned()
		if !slices.Equal(room, was) {
			t.Fatalf("%s became %s", shortList(was), shortList(room))
		}
		lowerOf(l).overwrittenAll()
		if !slices.Equal(room, was) || !sameLower(answer, kept) {
			t.Fatalf("%s: an answer shares memory with another one, or with what was given", shortPlay(l))
		}
		overwritten(l)
		if !sameLower(answer, kept) {
			t.Fatalf("%s: %s became %s", shortPlay(list), showLower(kept), showLower(answer))
		}
		copy(room, was)
		// One answer after the other: none of them is memory of another one.
		for n := range answer.passes {
			overwritten(answer.passes[n])
			for m := n + 1; m < len(answer.passes); m++ {
				if !slices.Equal(answer.passes[m], kept.passes[m]) {
					t.Fatalf("%s: what is said with %d is memory of what is said with %d", shortPlay(list), m, n)
				}
			}
		}
		if !slices.Equal(answer.lowered, kept.lowered) {
			t.Fatalf("%s: Lowered is memory of what Passes says", shortPlay(list))
		}
		overwritten(answer.lowered)
		if again := lowerOf(l); !sameLower(again, kept) || !slices.Equal(room, was) {
			t.Fatalf("%s: %s, and again %s", shortPlay(l), showLower(kept), showLower(again))
		}
		if len(list) > 0 && slices.Equal(kept.lowered, list) {
			asItWas++
		}
	}
	if asItWas < 90 {
		t.Errorf("only %d stay as they are", asItWas)
	}
}

// What is asked again is answered again, whatever was asked between.
func TestLoweredKeepsNothing(t *testing.T) {
	cases := lowerCases()
	for range 2 {
		for _, c := range cases {
			l, want := signsOf(t, c.page), lowerAnswers{growth: c.growth}
			for n, page := range c.passPages() {
				want.passes[n] = signsOf(t, page)
			}
			want.lowered = want.passes[passCount]
			if got := lowerOf(l); !sameLower(got, want) {
				t.Fatalf("%s: %s; want %s", c.page, showLower(got), showLower(want))
			}
			checkNothingLower(t, signsOf(t, c.page+" (say q0)"))
			for n, said := range want.passes {
				// The ways that are behind it leave it as it is; the others go on from there.
				if got := impl.Lowered(said); !slices.Equal(got, want.lowered) {
					t.Fatalf("%s, said again %d times: %s; want %s", c.page, n, shortPlay(got), shortPlay(want.lowered))
				}
			}
		}
		slices.Reverse(cases)
	}
}

// What stands in the spare room behind a play is no part of it.
func TestLoweredDoesNotReadTheSpareRoom(t *testing.T) {
	whole := signsOf(t, "(say 1) (hidden) (say (join)) (let a 2) (for i 0 1 (do (let v0 i) (run (fn ((v1 a)) (back (+ v0 v1))))))")
	for n := range len(whole) + 1 {
		checkLower(t, whole[:n])
		checkLower(t, slices.Clip(whole[:n]))
	}
	for _, c := range []struct {
		length int
		again  string
		growth int64
	}{{0, "", 0}, {3, "", -1}, {4, "(say 1)", 0}, {5, "", -1}, {7, "(say 1)", -3}, {13, "(say 1) (say '')", -5}, {18, "(vars v0) (say 1) (say '') (set v0 2)", -1}, {20, "", -1}, {len(whole) - 1, "", -1}} {
		if got := lowerOf(whole[:c.length]); !slices.Equal(got.lowered, signsOf(t, c.again)) || got.growth != c.growth {
			t.Errorf("the first %d: %s", c.length, showLower(got))
		}
	}
	if got := lowerOf(whole); len(got.lowered) == 0 || got.growth < 100 {
		t.Errorf("all: %s", showLower(got))
	}
}

// hasMethod asks for a method of that name of a type that the file declares.
func hasMethod(t *testing.T, path string, name string) bool {
	return hasNode(t, path, func(n ast.Node) bool {
		f, is := n.(*ast.FuncDecl)
		return is && f.Recv != nil && f.Name.Name == name
	})
}

// The line "lower" of the document's chapter Ways.
func TestWhatSaysNothingIsAWrappedError(t *testing.T) {
	const path = "../impl/l19_lower.go"
	for _, name := range []string{"New", "Is", "As"} {
		if !hasCallOf(t, path, "errors", name) {
			t.Errorf("in the layer of what is said again nothing calls errors.%s", name)
		}
	}
	for _, name := range []string{"Error", "Unwrap"} {
		if !hasMethod(t, path, name) {
			t.Errorf("in the layer of what is said again nothing has a method %s", name)
		}
	}
}
