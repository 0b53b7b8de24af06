package tests

import (
	"go/ast"
	"math"
	"runtime"
	"slices"
	"sync"
	"testing"
	"time"

	"loop.example/g00544/impl"
)

func checkBegins(t *testing.T, a []string, b []string, want bool) {
	t.Helper()
	if got, slow := impl.Begins(a, b), beginsSlowly(a, b); got != want || slow != want {
		t.Errorf("Begins(%s, %s) is %v, read slowly %v; want %v", shortList(a), shortList(b), got, slow, want)
	}
}

func TestBegins(t *testing.T) {
	for _, s := range sameSaids() {
		checkBegins(t, s.a, s.b, true)
		checkBegins(t, s.b, s.a, true)
	}
	for _, s := range longerSaids() {
		checkBegins(t, s.a, s.b, true)
		checkBegins(t, s.b, s.a, false)
	}
	for _, s := range otherSaids() {
		checkBegins(t, s.a, s.b, false)
		checkBegins(t, s.b, s.a, false)
	}
}

func TestBeginsOfItselfAndOfEachBeginningOfIt(t *testing.T) {
	for _, whole := range [][]string{nil, {}, {""}, {"a", "b", "c", "d"}, {"", "", ""}, {"a", "", "b", ""}, {"a", "a", "a", "a"}, qs(200)} {
		checkBegins(t, whole, whole, true)
		checkBegins(t, nil, whole, true)
		checkBegins(t, []string{}, whole, true)
		checkBegins(t, whole, nil, len(whole) == 0)
		checkBegins(t, whole, []string{}, len(whole) == 0)
		for n := range len(whole) + 1 {
			beginning := slices.Clone(whole[:n])
			checkBegins(t, beginning, whole, true)
			checkBegins(t, whole, beginning, n == len(whole))
			checkBegins(t, whole, append(slices.Clone(whole), beginning...), true)
			for _, more := range []string{"", "a", "z"} {
				checkBegins(t, append(slices.Clone(beginning), more), whole, n < len(whole) && whole[n] == more)
			}
			if n > 0 {
				beginning[n-1] = "other"
				checkBegins(t, beginning, whole, false)
			}
			if n > 1 {
				checkBegins(t, whole[1:n], whole[:1], n == 2 && whole[0] == whole[1])
			}
		}
	}
}

func TestBeginsOfEachTwoShortLists(t *testing.T) {
	lists := listsOf(4, "", "a", "b")
	begin := 0
	for _, a := range lists {
		for _, b := range lists {
			want := beginsSlowly(a, b)
			checkBegins(t, a, b, want)
			if want {
				begin++
			}
		}
	}
	// Each list of n has n+1 beginnings.
	if len(lists) != 121 || begin != 1+3*2+9*3+27*4+81*5 {
		t.Errorf("of %d lists %d begin another one", len(lists), begin)
	}
}

// checkAlike asks both ways, with the Steps that both have and with others.
func checkAlike(t *testing.T, a impl.Show, b impl.Show, want bool) {
	t.Helper()
	got, turned, slow := impl.Alike(a, b), impl.Alike(b, a), alikeSlowly(a, b)
	later := impl.Alike(laterBy(a, 3), laterBy(b, -7))
	if got != want || turned != want || slow != want || later != want {
		t.Errorf("Alike of %s and %s is %v, the other way round %v, with other Steps %v, read slowly %v; want %v", showShow(a), showShow(b), got, turned, later, slow, want)
	}
}

func showing(said []string, fault int64) impl.Show { return impl.Show{Said: said, Fault: fault} }

// checkFaults asks of two Saids with each of these Faults.
func checkFaults(t *testing.T, s twoSaids, firsts []int64, seconds []int64, want func(first int64, second int64) bool) {
	t.Helper()
	if len(s.b) > 1000 {
		firsts, seconds = firsts[:2], seconds[:2]
	}
	for _, first := range firsts {
		for _, second := range seconds {
			checkAlike(t, showing(s.a, first), showing(s.b, second), want(first, second))
		}
	}
}

func always(int64, int64) bool { return true }

func never(int64, int64) bool { return false }

func TestAlikeWhereBothEnded(t *testing.T) {
	ended := endedFaults()
	for _, s := range sameSaids() {
		checkFaults(t, s, ended, ended, func(first int64, second int64) bool { return first == second })
	}
	for _, s := range append(longerSaids(), otherSaids()...) {
		checkFaults(t, s, ended, ended, never)
		checkFaults(t, s.turned(), ended, ended, never)
	}
}

// Of the one that did not end, all that it said must be the beginning.
func TestAlikeWhereTheFirstOneAloneEnded(t *testing.T) {
	ended, cut := endedFaults(), cutFaults()
	for _, s := range sameSaids() {
		checkFaults(t, s, ended, cut, always)
	}
	for _, s := range longerSaids() {
		checkFaults(t, s, ended, cut, never)
		checkFaults(t, s.turned(), ended, cut, always)
	}
	for _, s := range otherSaids() {
		checkFaults(t, s, ended, cut, never)
		checkFaults(t, s.turned(), ended, cut, never)
	}
}

func TestAlikeWhereTheSecondOneAloneEnded(t *testing.T) {
	ended, cut := endedFaults(), cutFaults()
	for _, s := range sameSaids() {
		checkFaults(t, s, cut, ended, always)
	}
	for _, s := range longerSaids() {
		checkFaults(t, s, cut, ended, always)
		checkFaults(t, s.turned(), cut, ended, never)
	}
	for _, s := range otherSaids() {
		checkFaults(t, s, cut, ended, never)
		checkFaults(t, s.turned(), cut, ended, never)
	}
}

func TestAlikeWhereNoneEnded(t *testing.T) {
	cut := cutFaults()
	for _, s := range append(sameSaids(), longerSaids()...) {
		checkFaults(t, s, cut, cut, always)
		checkFaults(t, s.turned(), cut, cut, always)
	}
	for _, s := range otherSaids() {
		checkFaults(t, s, cut, cut, never)
		checkFaults(t, s.turned(), cut, cut, never)
	}
}

func TestAlikeOfOrdinaryShows(t *testing.T) {
	for _, c := range []struct {
		first, second string
		want          bool
	}{
		{"(say 1) (say 2)", "(say 1) (say (+ 1 1))", true}, {"(say 1) (say 2)", "(say 1)", false}, {"(say 1)", "(say 2)", false}, {"(say 1)", "(say '1')", true}, {"", "(do)", true}, {"", "(say '')", false}, {"(say none)", "(say 'none')", true},
		{"(say 1) (run (+ 1 none))", "(say 1) (run (get 1 1))", true}, {"(say 1) (run (+ 1 none))", "(say 1)", false}, {"(say 1) (run (+ 1 none))", "(say 1) (run " + over + ")", false}, {"(run (tget (table) (thing)))", "(run " + over + ")", false}, {"(run (tget (table) (thing)))", "(hidden p) (say (hget p (thing)))", true},
		// What goes on and on, against what ends.
		{"(say 1) (while 1 (do))", "(say 1)", true}, {"(say 1) (while 1 (do))", "(say 1) (say 2)", true}, {"(say 1) (while 1 (do))", "(say 1) (run " + over + ")", true}, {"(say 1) (while 1 (do))", "", false}, {"(say 1) (while 1 (do))", "(say 2)", false}, {"(while 1 (do))", "(say 2)", true}, {"(while 1 (do))", "", true}, {"(while 1 (say 0))", "(for i 0 200 (say 0))", true}, {"(while 1 (say 0))", "(for i 0 199 (say 0))", false}, {"(while 1 (say 0))", "(say 0) (while 1 (do))", true}, {"(while 1 (say 0))", "(say 0) (say 1) (while 1 (do))", false},
		{"(say 1) (while 1 (do))", "(say 1) (while 1 (run (thing)))", true}, {"(say 1) (while 1 (do))", "(say 1) (say 2) (while 1 (run (thing)))", true}, {"(say 1) (say 2) (while 1 (do))", "(say 1) (while 1 (run (table)))", true}, {"(say 1) (while 1 (do))", "(say 2) (while 1 (run (table)))", false},
		// What is no play that is Scoped says nothing, and ends as a kind.
		{"(say q)", "(run (+ 1 none))", true}, {"(say q)", "", false}, {"(say q)", "(while 1 (do))", true}, {"(say q)", "(say 1) (while 1 (do))", false},
	} {
		checkAlike(t, impl.Played(signsOf(t, c.first), impl.MaxFuel), impl.Played(signsOf(t, c.second), impl.MaxFuel), c.want)
	}
}

func TestStepsCountForNothing(t *testing.T) {
	counts := []int64{0, 1, -1, 7, impl.MaxFuel, impl.MaxFuel + 1, math.MinInt64, math.MaxInt64}
	for _, fault := range everyFault() {
		for _, first := range counts {
			for _, second := range counts {
				a := impl.Show{Said: []string{"a", "b"}, Fault: fault, Steps: first}
				b := impl.Show{Said: []string{"a", "b"}, Fault: fault, Steps: second}
				c := impl.Show{Said: []string{"a", "c"}, Fault: fault, Steps: second}
				if !impl.Alike(a, b) || impl.Alike(a, c) || impl.Alike(c, a) {
					t.Errorf("with Steps %d and %d and the Fault %d", first, second, fault)
				}
			}
		}
	}
}

// Promise 11: Alike goes both ways, and each is Alike itself.
func TestAlikeGoesBothWays(t *testing.T) {
	var shows []impl.Show
	for _, said := range append(listsOf(2, "", "a", "b"), nil, []string{"a", "b", "a"}, []string{"a", "b", ""}, qs(200), qsBut(200, 199)) {
		for n, fault := range everyFault() {
			shows = append(shows, impl.Show{Said: said, Fault: fault, Steps: int64(n)})
		}
	}
	alike := 0
	for _, a := range shows {
		other := impl.Show{Said: slices.Clone(a.Said), Fault: a.Fault, Steps: a.Steps}
		if !impl.Alike(a, a) || !impl.Alike(a, other) || !impl.Alike(other, a) {
			t.Fatalf("%s is not Alike itself", showShow(a))
		}
		for _, b := range shows {
			there, back := impl.Alike(a, b), impl.Alike(b, a)
			if there != back {
				t.Fatalf("%s and %s: %v, and the other way round %v", showShow(a), showShow(b), there, back)
			}
			if there {
				alike++
			}
		}
	}
	if all := len(shows) * len(shows); alike < all/50 || alike > all/2 {
		t.Errorf("of %d two, %d are Alike", all, alike)
	}
}

func TestAlikeOfEachTwoShortShows(t *testing.T) {
	var shows []impl.Show
	for _, said := range listsOf(3, "", "a") {
		for _, fault := range []int64{impl.FtNone, impl.FtKind, impl.FtOver, impl.FtKey, impl.FtFuel, impl.FtMany, 6, -1} {
			shows = append(shows, showing(said, fault))
		}
	}
	for _, a := range shows {
		for _, b := range shows {
			checkAlike(t, a, b, alikeSlowly(a, b))
		}
	}
}

// A play says the same with less fuel, as far as it comes.
func TestAPlayIsAlikeWithWhateverFuel(t *testing.T) {
	ends := map[int64]int{}
	for _, l := range playsToAsk(t, 200) {
		whole := impl.Played(l, impl.MaxFuel)
		ends[whole.Fault]++
		shows := []impl.Show{whole}
		for _, fuel := range []int64{0, 1, 2, 9, 40, whole.Steps / 2, whole.Steps - 1, whole.Steps, whole.Steps + 1} {
			if fuel >= 0 && fuel <= impl.MaxFuel {
				shows = append(shows, impl.Played(l, fuel))
			}
		}
		for _, a := range shows {
			for _, b := range shows {
				if !impl.Alike(a, b) {
					t.Fatalf("%s: %s and %s", shortPlay(l), showShow(a), showShow(b))
				}
			}
		}
	}
	for fault := range int64(6) {
		if ends[fault] == 0 {
			t.Errorf("none ends with %d", fault)
		}
	}
}

func TestAlikeOfMadePlays(t *testing.T) {
	var shows []impl.Show
	for n, l := range madePlays(150) {
		shows = append(shows, impl.Played(l, []int64{20, 60, 300, 4000}[n%4]))
	}
	alike := 0
	for _, a := range shows {
		for _, b := range shows {
			want := alikeSlowly(a, b)
			if got := impl.Alike(a, b); got != want {
				t.Fatalf("%s and %s: %v; want %v", showShow(a), showShow(b), got, want)
			}
			if want {
				alike++
			}
		}
	}
	if alike < 1000 || alike > 21500 {
		t.Errorf("%d are Alike", alike)
	}
}

func checkSaidBy(t *testing.T, l []string, fuel int64, want []string) {
	t.Helper()
	if got, slow := impl.SaidBy(l, fuel), saidSlowly(l, fuel); !slices.Equal(got, want) || !slices.Equal(slow, want) {
		t.Errorf("SaidBy of %s with fuel %d is %q, read slowly %q; want %q", shortPlay(l), fuel, got, slow, want)
	}
}

// A saidCase is a page that has so many Steps, and what it says with one fuel
// less, and with as much.
type saidCase struct {
	page  string
	steps int64
	less  []string
	all   []string
}

func saidCases() []saidCase {
	return []saidCase{
		{"(do)", 1, nil, nil}, {"(say 1)", 2, nil, []string{"1"}}, {"(say 1) (say 2)", 4, []string{"1"}, []string{"1", "2"}}, {"(say 'a b') (say '') (say none) (do)", 7, []string{"a b", "", "none"}, []string{"a b", "", "none"}}, {"(say 1) (back 5) (say 2)", 4, []string{"1"}, []string{"1"}}, {"(say '') (say '')", 4, []string{""}, []string{"", ""}},
		{"(say 1) (run (+ 1 none))", 6, []string{"1"}, []string{"1"}}, {"(say (+ 1 none)) (say 1)", 4, nil, nil}, {"(say 1) (say 2) (run " + over + ") (say 3)", 8, []string{"1", "2"}, []string{"1", "2"}}, {"(say 1) (run (tget (table) (thing))) (say 2)", 6, []string{"1"}, []string{"1"}}, {"(hidden p) (say (hget p (thing)))", 4, nil, nil},
		{"(say 1) (while 1 (do))", 20000, []string{"1"}, []string{"1"}}, {"(while 1 (do))", 20000, nil, nil},
		{"(say 'm') (for i 0 201 (run (table)))", 407, []string{"m"}, []string{"m"}}, {"(while 1 (say 'q'))", 604, qs(200), qs(200)}, {"(for i 0 200 (say 'q'))", 403, qs(199), qs(200)}, {"(let f (fn (n) (say n) (run (call f (+ n 1))))) (run (call f 0))", 2 + 4 + 40*8, manyOf(40, decimal), manyOf(40, decimal)},
	}
}

func decimal(n int64) string { return impl.SignOf(number(n)) }

func TestSaidBy(t *testing.T) {
	for _, c := range saidCases() {
		l := signsOf(t, c.page)
		if steps := impl.Played(l, impl.MaxFuel).Steps; steps != c.steps {
			t.Errorf("%s has %d Steps", c.page, steps)
		}
		checkSaidBy(t, l, -1, nil)
		checkSaidBy(t, l, 0, nil)
		checkSaidBy(t, l, 1, nil)
		checkSaidBy(t, l, c.steps-1, c.less)
		checkSaidBy(t, l, c.steps, c.all)
		checkSaidBy(t, l, impl.MaxFuel, c.all)
		checkSaidBy(t, l, impl.MaxFuel+1, nil)
	}
	for _, fuel := range []int64{-1, 0, 1, impl.MaxFuel, impl.MaxFuel + 1} {
		checkSaidBy(t, nil, fuel, nil)
		checkSaidBy(t, []string{}, fuel, nil)
	}
}

func TestSaidByIsSaidOfPlayed(t *testing.T) {
	for _, l := range playsToAsk(t, 150) {
		whole := impl.Played(l, impl.MaxFuel)
		for _, fuel := range []int64{-1, 0, 1, 25, whole.Steps - 1, whole.Steps, whole.Steps + 1, impl.MaxFuel, impl.MaxFuel + 1, math.MinInt64, math.MaxInt64, 1<<32 + 25} {
			if got, want := impl.SaidBy(l, fuel), impl.Played(l, fuel).Said; !slices.Equal(got, want) {
				t.Fatalf("%s with fuel %d: %q; want %q", shortPlay(l), fuel, got, want)
			}
		}
	}
}

func TestSaidByOfWhatIsNoScopedPlay(t *testing.T) {
	var lists [][]string
	for _, page := range brokenPages() {
		lists = append(lists, signsOf(t, page), signsOf(t, "(say 1) "+page), signsOf(t, "(say 1) (back 1) (do "+page+")"))
	}
	for _, page := range []string{"5", "none", "(+ 1 2)", "(say", "(say 1", "(say 1))", "(say 1) )", "(say 1) (", "(say 1) 5", "(say 1) (let let 1)", "(say 1) (say)", "(say 1) (if 1 (let a 1) (do))", "(say 1) (say q)", "(say 1) (leave)", "(say 1) (vars a)", "(say 1) (take (a a) (thing))", "(say 1) (run (hget p (thing)))"} {
		lists = append(lists, signsOf(t, page))
	}
	for _, bad := range wrongSigns() {
		lists = append(lists, []string{bad}, []string{"(", "say", bad, ")"}, []string{"(", "say", "1", ")", bad})
	}
	long := slices.Repeat([]string{"(", "say", "1", ")"}, 501)
	lists = append(lists, long, within(impl.MaxDepth, "( do", "( say 1 )", ")"), within(100000, "( do", "( say 1 )", ")"), within(100000, "(", "", ""))
	for _, l := range lists {
		if impl.Scoped(l) {
			t.Fatalf("%s: the test itself is wrong", shortList(l))
		}
		for _, fuel := range []int64{-1, 0, 1, 100, impl.MaxFuel, impl.MaxFuel + 1, math.MinInt64, math.MaxInt64} {
			if got := impl.SaidBy(l, fuel); len(got) > 0 {
				t.Errorf("SaidBy of %s with fuel %d is %q", shortList(l), fuel, got)
			}
		}
	}
	checkSaidBy(t, long[:2000], impl.MaxFuel, slices.Repeat([]string{"1"}, 200))
}

// Promise 21, for the functions of chapter 11, from here on.
func TestSaidByLeavesWhatIsGiven(t *testing.T) {
	for _, given := range append(playsToAsk(t, 60), scopeLists(t)...) {
		l, room := roomy(given)
		was := slices.Clone(room)
		for _, fuel := range []int64{-1, 0, 9, 300, impl.MaxFuel + 1} {
			answer := impl.SaidBy(l, fuel)
			kept := slices.Clone(answer)
			overwritten(impl.SaidBy(l, fuel))
			if !slices.Equal(room, was) || !slices.Equal(answer, kept) {
				t.Fatalf("%s: an answer shares memory with another one, or with what was given", shortPlay(l))
			}
			overwritten(l)
			if !slices.Equal(answer, kept) {
				t.Fatalf("%s: %q became %q", shortPlay(given), kept, answer)
			}
			copy(room, was)
			if again := impl.SaidBy(l, fuel); !slices.Equal(again, kept) {
				t.Fatalf("%s: %q, and again %q", shortPlay(l), kept, again)
			}
		}
	}
}

func TestSamesLeaveWhatIsGiven(t *testing.T) {
	for _, s := range slices.Concat(sameSaids(), longerSaids(), otherSaids()) {
		first, firstRoom := roomy(s.a)
		second, secondRoom := roomy(s.b)
		firstWas, secondWas := slices.Clone(firstRoom), slices.Clone(secondRoom)
		for _, fault := range []int64{impl.FtNone, impl.FtKey, impl.FtFuel, impl.FtMany, 7} {
			for _, other := range []int64{impl.FtNone, impl.FtMany, -1} {
				a := impl.Show{Said: first, Fault: fault, Steps: 5}
				b := impl.Show{Said: second, Fault: other, Steps: 6}
				impl.Alike(a, b)
				impl.Alike(b, a)
				impl.Begins(first, second)
				impl.Begins(second, first)
				if a.Fault != fault || a.Steps != 5 || b.Fault != other || b.Steps != 6 {
					t.Fatalf("%s, %s", showShow(a), showShow(b))
				}
			}
		}
		if !slices.Equal(firstRoom, firstWas) || !slices.Equal(secondRoom, secondWas) {
			t.Fatalf("%s became %s, or %s became %s", shortList(firstWas), shortList(firstRoom), shortList(secondWas), shortList(secondRoom))
		}
	}
}

// What stands in the spare room behind a list is no part of it, be it the same
// as in the other one or not; and both may be pieces of one list.
func TestSamesDoNotReadTheSpareRoom(t *testing.T) {
	whole := []string{"a", "b", "a", "b", "c"}
	other := []string{"a", "b", "x", "y"}
	for n := range len(whole) + 1 {
		for m := range len(whole) + 1 {
			checkBegins(t, whole[:n], whole[:m], n <= m)
			checkAlike(t, showing(whole[:n], impl.FtNone), showing(whole[:m], impl.FtNone), n == m)
			checkAlike(t, showing(whole[:n], impl.FtNone), showing(whole[:m], impl.FtFuel), m <= n)
			checkAlike(t, showing(whole[:n], impl.FtMany), showing(whole[:m], impl.FtFuel), true)
		}
		for m := range len(other) + 1 {
			checkBegins(t, whole[:n], other[:m], n <= m && n <= 2)
			checkBegins(t, other[:m], whole[:n], m <= n && m <= 2)
			checkAlike(t, showing(whole[:n], impl.FtKey), showing(other[:m], impl.FtKey), n == m && n <= 2)
		}
	}
	checkBegins(t, whole[2:4], whole, true)
	checkBegins(t, whole[2:5], whole, false)
	checkBegins(t, whole[1:2], whole, false)
	checkAlike(t, showing(whole[:2], impl.FtNone), showing(whole[2:4], impl.FtNone), true)
}

// A manyTimes is two Shows that are asked for again and again.
type manyTimes struct {
	a, b impl.Show
	want bool
}

func askedManyTimes() []manyTimes {
	var out []manyTimes
	for _, first := range everyFault() {
		for _, second := range []int64{impl.FtNone, impl.FtKind, impl.FtFuel, impl.FtMany, 6} {
			for _, s := range []twoSaids{{nil, nil}, {nil, []string{""}}, {[]string{"a"}, []string{"a", "b"}}, {[]string{"a", "b"}, []string{"a"}}, {[]string{"a"}, []string{"b"}}, {qs(200), qs(200)}, {qs(200), qsBut(200, 0)}, {qs(5000), qsBut(5000, 4999)}} {
				a, b := showing(s.a, first), showing(s.b, second)
				out = append(out, manyTimes{a, b, alikeSlowly(a, b)})
			}
		}
	}
	return out
}

func (m manyTimes) check(t *testing.T, times int) {
	t.Helper()
	for range times {
		if impl.Alike(m.a, m.b) != m.want || impl.Alike(m.b, m.a) != m.want {
			t.Errorf("%s and %s are not %v each time", showShow(m.a), showShow(m.b), m.want)
			return
		}
	}
}

// Whoever of both is asked first, by however many at once: what is asked again
// is answered again.
func TestAlikeAnswersTheSameEachTime(t *testing.T) {
	for _, m := range askedManyTimes() {
		m.check(t, 100)
	}
	most := runtime.GOMAXPROCS(1)
	defer runtime.GOMAXPROCS(most)
	for _, m := range askedManyTimes() {
		m.check(t, 20)
	}
	runtime.GOMAXPROCS(most)
	var asking sync.WaitGroup
	asked := askedManyTimes()
	for n := range 16 {
		asking.Go(func() {
			for at := range asked {
				asked[(at+n*37)%len(asked)].check(t, 3)
			}
		})
	}
	asking.Wait()
}

// What was asked between is of no matter.
func TestSamesKeepNothing(t *testing.T) {
	asked, cases := askedManyTimes(), saidCases()
	for range 2 {
		for n, m := range asked {
			m.check(t, 1)
			checkBegins(t, m.a.Said, m.b.Said, beginsSlowly(m.a.Said, m.b.Said))
			c := cases[n%len(cases)]
			if got := impl.SaidBy(signsOf(t, c.page), c.steps); !slices.Equal(got, c.all) {
				t.Fatalf("%s: %q; want %q", c.page, got, c.all)
			}
		}
		slices.Reverse(asked)
		slices.Reverse(cases)
	}
}

// All whom Alike asks are through when it answers; one that ends takes a while
// to be gone.
func TestAlikeLeavesNobodyWaiting(t *testing.T) {
	before := runtime.NumGoroutine()
	for _, m := range askedManyTimes() {
		m.check(t, 2)
	}
	for range 1000 {
		if runtime.NumGoroutine() <= before {
			return
		}
		time.Sleep(time.Millisecond)
	}
	t.Errorf("%d were there, and then %d", before, runtime.NumGoroutine())
}

// What Alike was handed is the caller's again as soon as it has answered.
func TestAlikeIsThroughWhenItAnswers(t *testing.T) {
	first, second := qs(3000), qs(3000)
	for n := range 300 {
		same := n%2 == 0
		second[n] = "other"
		if same {
			second[n] = first[n]
		}
		if got := impl.Alike(showing(first, impl.FtNone), showing(second, impl.FtNone)); got != same {
			t.Fatalf("asked for the %dth time: %v", n, got)
		}
		first[n], second[n] = "over", "over"
	}
}

// The line "same" of the document's chapter Ways.
func TestAlikeAloneAsksByGoroutines(t *testing.T) {
	path := "../impl/l11_same.go"
	if !hasNode(t, path, isGo) {
		t.Error("no goroutine in the layer of the same")
	}
	if !hasNode(t, path, isSend) {
		t.Error("nothing is sent in the layer of the same")
	}
	if !hasCall(t, path, "close") {
		t.Error("nothing is closed in the layer of the same")
	}
	waits := hasNode(t, path, func(n ast.Node) bool {
		called, is := n.(*ast.SelectorExpr)
		return is && called.Sel.Name == "Wait"
	})
	if !waits || !hasNode(t, path, isWaitGroup) {
		t.Error("no goroutines are joined by a WaitGroup in the layer of the same")
	}
	asks := askersIn(t, path)
	if !asks["Alike"] || asks["Begins"] || asks["SaidBy"] {
		t.Errorf("by goroutines ask, or have others ask: %v", asks)
	}
}

func isGo(n ast.Node) bool {
	_, is := n.(*ast.GoStmt)
	return is
}

func isSend(n ast.Node) bool {
	_, is := n.(*ast.SendStmt)
	return is
}

func isWaitGroup(n ast.Node) bool {
	s, is := n.(*ast.SelectorExpr)
	if !is {
		return false
	}
	from, is := s.X.(*ast.Ident)
	return is && from.Name == "sync" && s.Sel.Name == "WaitGroup"
}

// askersIn are the functions of the file that have a go in them, and those that
// name such a one.
func askersIn(t *testing.T, path string) map[string]bool {
	functions := map[string]*ast.FuncDecl{}
	hasNode(t, path, func(n ast.Node) bool {
		if f, is := n.(*ast.FuncDecl); is {
			functions[f.Name.Name] = f
		}
		return false
	})
	asks := map[string]bool{}
	for range functions {
		for name, f := range functions {
			ast.Inspect(f.Body, func(n ast.Node) bool {
				named, is := n.(*ast.Ident)
				if isGo(n) || is && asks[named.Name] {
					asks[name] = true
				}
				return true
			})
		}
	}
	return asks
}
