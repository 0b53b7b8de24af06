package tests

import (
	"fmt"
	"go/ast"
	"math/rand/v2"
	"slices"
	"strconv"
	"strings"
	"testing"

	"loop.example/g00544/impl"
)

// checkBench holds the program against the slow reading, and tells its answers.
func checkBench(t *testing.T, text string) string {
	t.Helper()
	got := impl.Bench(text)
	if want := benchSlowly(text); got != want {
		t.Errorf("%s: %s; read slowly %s", short(text), apart(got, want), apart(want, got))
	}
	if again := impl.Bench(text); again != got {
		t.Errorf("%s: %s, and again %s", short(text), apart(got, again), apart(again, got))
	}
	return got
}

// apart shows a from the first line on that is another one in b.
func apart(a string, b string) string {
	as, bs := strings.Split(a, "\n"), strings.Split(b, "\n")
	for n, line := range as {
		if n == len(bs) || bs[n] != line {
			return fmt.Sprintf("%s at %d of %d", short(line), n, len(as))
		}
	}
	return fmt.Sprintf("the first %d of %d", len(as), len(bs))
}

// checkLines asks for these answers of these lines, of each beginning of them, with
// and without a byte 10 at the end, and with lines without a byte between.
func checkLines(t *testing.T, list []benchLine) {
	t.Helper()
	lines, answers := benchLines(list)
	for n := range len(lines) + 1 {
		text, want := whole(lines[:n]), whole(answers[:n])
		for _, ended := range []string{text, strings.TrimSuffix(text, "\n")} {
			if got := impl.Bench(ended); got != want {
				t.Errorf("%s: %s; want %s", short(ended), apart(got, want), apart(want, got))
				return
			}
		}
	}
	checkBench(t, whole(lines))
	if len(lines) <= impl.MaxLines/2 {
		checkBench(t, "\n"+strings.ReplaceAll(whole(lines), "\n", "\n\n"))
	}
}

func TestBenchLimits(t *testing.T) {
	if impl.MaxBench != 8000 || impl.MaxLines != 80 {
		t.Errorf("MaxBench is %d, MaxLines %d", impl.MaxBench, impl.MaxLines)
	}
}

// Each line of the chapter's table, at plays written out.
func TestBenchOfEachLine(t *testing.T) {
	for _, rows := range [][]string{
		// Ahead of any play line: the empty play, and fuel 2000.
		{"run > end", "old > y", "new > -", "pass 0 > -", "pass 3 > -", "pass 7 > -", "low > end", "same > y", "grow > 0", "free (say a) > a", "fresh 0 > v0", "fresh 99999 > v99999", "fuel 0 > ok", "run > end", "same > y"},
		{"play > 0", "run > end", "old > y", "new > -", "pass 0 > -", "pass 7 > -", "low > end", "same > y", "grow > 0", "fresh 5 > v5"},
		// With nothing new.
		{"play (vars a) (set a 2) (say (* a 3)) > 17", "run > 6 end", "old > y", "new > -", "pass 0 > (vars a) (set a 2) (say (* a 3))", "pass 4 > (vars a) (set a 2) (say (* a 3))", "pass 7 > (vars a) (set a 2) (say (* a 3))", "low > 6 end", "same > y", "grow > 0", "fresh 0 > v0"},
		{"play (do) > 3", "run > end", "old > y", "new > -", "pass 7 > (do)", "low > end", "same > y", "grow > 0"},
		{"play (vars v0 v1 v3) (say 'v2') (say '') > 14", "run > v2/ end", "old > y", "low > v2/ end", "fresh 0 > v2", "fresh 1 > v2", "fresh 2 > v2", "fresh 3 > v4", "fresh 4 > v4", "fresh 10 > v10"},
		{"play (vars v99999 v100000) > 5", "fresh 99998 > v99998", "fresh 99999 > v100001", "fresh 100000 > error"},
		// With each word that is new.
		{"play (let a 1) (say a) > 9", "run > 1 end", "old > n", "new > let", "pass 6 > (let a 1) (say a)", "pass 7 > (vars v0) (set v0 1) (say v0)", "low > 1 end", "same > y", "grow > 4", "fresh 0 > v0"},
		{"play (say (call (fn ((x 5)) (back x)))) > 19", "run > 5 end", "old > n", "new > given", "pass 0 > (say (call (fn ((x 5)) (back x))))", "pass 1 > (say (call (fn (x) (if (= x none) (set x 5) (do)) (do (back x)))))", "pass 7 > (say (call (fn (x) (if (= x none) (set x 5) (do)) (do (back x)))))", "low > 5 end", "same > y", "grow > 16"},
		{"play (take (a b) (thing 3 4)) (say (- a b)) > 20", "run > -1 end", "new > take", "pass 1 > (take (a b) (thing 3 4)) (say (- a b))", "pass 2 > (let v0 (thing 3 4)) (let a (get v0 0)) (let b (get v0 1)) (say (- a b))", "low > -1 end", "same > y", "grow > 21"},
		{"play (say (join 1 'x' none)) > 9", "run > 1xnone end", "new > join", "pass 2 > (say (join 1 'x' none))", "pass 3 > (say (& (& (& '' 1) 'x') none))", "low > 1xnone end", "same > y", "grow > 7"},
		{"play (vars t) (set t (thing)) (hidden p) (hput p t 5) (say (hget p t)) > 29", "run > 5 end", "new > hidden hget hput", "pass 3 > (vars t) (set t (thing)) (hidden p) (hput p t 5) (say (hget p t))", "pass 4 > (vars t) (let v0 (table)) (set t (thing)) (tput v0 t 5) (say (tget v0 t))", "pass 7 > (vars t v1) (set v1 (table)) (set t (thing)) (tput v1 t 5) (say (tget v1 t))", "low > 5 end", "same > y", "grow > 4"},
		{"play (for i 0 2 (say i)) > 10", "run > 0/1 end", "new > for", "pass 5 > (do (let v0 0) (let v1 2) (while (< v0 v1) (do (let i v0) (set v0 (+ v0 1)) (say i))))", "low > 0/1 end", "same > y", "grow > 53"},
		{"play (while 1 (do (let k 3) (say (call (fn () (back k)))) (leave))) > 30", "run > 3 end", "new > let", "pass 5 > (while 1 (do (let k 3) (say (call (fn () (back k)))) (leave)))", "pass 6 > (while 1 (do (let v0 (call (fn () (let k 3) (say (call (fn () (back k)))) (back (thing 2))))) (if (= v0 none) (do) (if (= (get v0 0) 1) (back (get v0 1)) (if (= (get v0 0) 2) (leave) (next))))))", "low > 3 end", "same > y"},
		{"play (hidden p) (take (a) (thing (join))) (let b (fn ((c a)) (back c))) (for i 0 1 (say (call b))) > 46", "run >  end", "new > given join hidden take for let", "low >  end", "same > y"},
		// What becomes shorter, by one sign, too; as long as it was; and nothing at all.
		{"play (say (join)) > 6", "pass 7 > (say '')", "low >  end", "same > y", "grow > -2"},
		{"play (say (join)) (say (join 1)) > 13", "run > /1 end", "pass 7 > (say '') (say (& '' 1))", "low > /1 end", "same > y", "grow > -1"},
		{"play (say (join)) (say (join 1)) (say (join 2)) > 20", "grow > 0", "old > n", "low > /1/2 end"},
		{"play (hidden) > 3", "run > end", "old > n", "new > hidden", "pass 0 > (hidden)", "pass 3 > (hidden)", "pass 4 > -", "pass 7 > -", "low > error", "same > error", "grow > error", "fresh 0 > v0", "run > end", "play > 0", "low > end", "same > y", "grow > 0"},
		// free tells of its own page, not of the play.
		{"play (let a 1) > 5", "free (say a) > a", "free (say x) (set y 1) > x y", "free (set z a) (say z) (say b) (say b) > a b z", "free (let a 1) (say a) > -", "free (say 1) > -", "free (leave) > -", "free (vars a a) > -", "free (hput p 1 2) > -", "free (say v10) (say v9) > v10 v9", "free   (say a)   > a", "free ( say a ) > a", "free  > -", "free    > -", "run > end", "new > let"},
		// TEXT is all behind the first blank, whatever its own blanks.
		{"play   (say   1)  > 4", "pass 0 > (say 1)", "play (say(+ 1 2))(do) > 11", "pass 0 > (say (+ 1 2)) (do)", "play (say'a b') > 4", "pass 0 > (say 'a b')", "run > a b end", "play ( ( > error", "run > a b end", "play  > 0", "run > end", "play (do) > 3", "play    > 0", "pass 0 > -"},
		{"play (say '  ') > 4", "run >    end", "pass 7 > (say '  ')", "low >    end"},
	} {
		checkLines(t, asked(rows...))
	}
}

// Each line against what the functions of its chapter answer.
func TestBenchTellsWhatTheChaptersTell(t *testing.T) {
	t.Parallel()
	pages := slices.Concat(oldPlays(), notScoped(), pagesNotLowered())
	for _, c := range slices.Concat(lowerCases(), keepersAsLowerCases()) {
		pages = append(pages, c.page)
	}
	for _, a := range arounds() {
		for _, deed := range newDeeds() {
			page, _ := deed.alone()
			pages = append(pages, a.with(page))
		}
	}
	for _, l := range madePlays(60) {
		pages = append(pages, impl.ShowSigns(l))
	}
	asked, errors := 0, 0
	for n, page := range pages {
		for _, fuel := range []int64{2000, int64(n%50) * 3, impl.MaxFuel} {
			l := signsOf(t, page)
			list := []benchLine{{"fuel " + strconv.FormatInt(fuel, 10), "ok"}, {"play " + page, strconv.Itoa(len(l))}}
			if !impl.Scoped(l) {
				list[1].answer, l = "error", nil
			}
			list = append(list, allLines(l, fuel)...)
			lines, answers := benchLines(list)
			if got, want := impl.Bench(whole(lines)), whole(answers); got != want {
				t.Errorf("%s: %s; want %s", page, apart(got, want), apart(want, got))
			}
			if n%9 == 0 && len(l) < 150 {
				checkBench(t, whole(lines))
			}
			asked += len(lines)
			errors += strings.Count(whole(answers), "error\n")
		}
	}
	if asked < 20000 || errors < 200 {
		t.Errorf("%d lines were asked, %d with an error", asked, errors)
	}
}

// pagesNotLowered are of nothing that is left, too long or too deep when they are
// said again.
func pagesNotLowered() []string {
	out := []string{"(hidden)", "(hidden) (hidden)"}
	for _, c := range longCases() {
		if c.until <= passCount {
			out = append(out, impl.ShowSigns(filledUp(c.page, impl.MaxSigns-c.more)))
		}
	}
	for _, l := range [][]string{within(60, "( do", "( hidden p )", ")"), within(58, "( do", "( for i 0 1 ( do ) )", ")"), within(55, "( do", "( while 1 ( do ( let k ( fn ( ) ( back k ) ) ) ) )", ")")} {
		out = append(out, impl.ShowSigns(l))
	}
	return out
}

// keepersAsLowerCases have no more told of them than the page.
func keepersAsLowerCases() []lowerCase {
	var out []lowerCase
	for _, c := range keepers() {
		out = append(out, lowerCase{page: c.page})
	}
	return out
}

// What each way says again is written out.
func TestBenchOfPlaysSaidAgain(t *testing.T) {
	for _, c := range lowerCases() {
		list := []benchLine{{"fuel 20000", "ok"}, {"play " + c.page, strconv.Itoa(len(signsOf(t, c.page)))}, {"run", c.words}}
		for n, page := range c.passPages() {
			list = append(list, benchLine{"pass " + strconv.Itoa(n), impl.ShowSigns(signsOf(t, page))})
		}
		list = append(list, benchLine{"low", c.words}, benchLine{"same", "y"}, benchLine{"grow", strconv.FormatInt(c.growth, 10)})
		checkLines(t, list)
	}
}

// Functions that keep a name of their turn, each of which changes what it kept:
// played as they are and in old words, they say the same.
func TestBenchOfFunctionsThatKeepANameOfTheirTurn(t *testing.T) {
	ends := map[string]int{}
	for _, c := range keepers() {
		l := signsOf(t, c.page)
		if !impl.Captured(impl.Turned(impl.Bared(impl.Unjoined(impl.Taken(impl.Given(l)))))) && !strings.Contains(c.page, "(let n 5)") {
			t.Errorf("%s: the test itself is wrong", c.page)
		}
		checkLines(t, []benchLine{{"play " + c.page, strconv.Itoa(len(l))}, {"run", c.words}, {"old", "n"}, {"low", c.words}, {"same", "y"}, {"fuel 20000", "ok"}, {"run", c.words}, {"same", "y"}})
		// What is said in old words is a play of its own.
		lowered := impl.ShowSigns(impl.Lowered(l))
		checkLines(t, []benchLine{{"fuel 20000", "ok"}, {"play " + lowered, strconv.Itoa(len(impl.Lowered(l)))}, {"run", c.words}, {"old", "y"}, {"new", "-"}, {"pass 7", lowered}, {"low", c.words}, {"grow", "0"}})
		ends[c.words[strings.LastIndex(c.words, " ")+1:]]++
	}
	for _, end := range []string{"end", "kind", "over", "key", "fuel", "many"} {
		if ends[end] == 0 {
			t.Errorf("none ends with %s", end)
		}
	}
}

// How each fault ends a play, by run and by low.
func TestBenchOfFaults(t *testing.T) {
	ends := map[string]int{}
	for _, c := range slices.Concat(oldFaults(), faultPages()) {
		signs := strconv.Itoa(len(signsOf(t, c.page)))
		checkLines(t, []benchLine{{"fuel 20000", "ok"}, {"play " + c.page, signs}, {"run", c.words}, {"low", c.words}, {"same", "y"}, {"play (say 1)", "4"}, {"run", "1 end"}, {"low", "1 end"}})
		ends[c.words[strings.LastIndex(c.words, " ")+1:]]++
	}
	for _, end := range []string{"end", "kind", "over", "key", "fuel", "many"} {
		if ends[end] < 3 {
			t.Errorf("%d end with %s", ends[end], end)
		}
	}
}

// faultPages are new, and end so as they are and in old words.
func faultPages() []playCase {
	return []playCase{
		{page: "(let a 1) (say a) (say 'z')", words: "1/z end"}, {page: "(for i 0 3 (say (join i 'a')))", words: "0a/1a/2a end"}, {page: "(say 1) (back 2) (let a 3) (say a)", words: "1 end"},
		{page: "(take (a) 5)", words: "kind"}, {page: "(say 1) (say (join 'a' (thing)))", words: "1 kind"}, {page: "(say 1) (for i 'a' 3 (say i))", words: "1 kind"}, {page: "(let a none) (say 1) (hidden p) (hput p a 1)", words: "1 kind"},
		{page: "(let a 999999999) (say a) (say (+ a 1))", words: "999999999 over"}, {page: "(let a (join '" + strings.Repeat("q", 60) + "')) (say 1) (say (join a 'q'))", words: "1 over"}, {page: "(for i 999999998 999999999 (do (say i) (say (* i 2))))", words: "999999998 over"},
		{page: "(hidden p) (say 1) (say (hget p (thing)))", words: "1 key"}, {page: "(let t (thing)) (do (hidden p) (hput p t 5) (say (hget p t))) (hidden p) (say (hget p t))", words: "5 key"}, {page: "(for i 0 3 (do (hidden p) (let t (thing)) (if (= i 1) (do) (hput p t i)) (say (hget p t))))", words: "0 key"},
		{page: "(let a 1) (say a) (while a (do))", words: "1 fuel"}, {page: "(say 2) (for i 0 3 (while 1 (do)))", words: "2 fuel"}, {page: "(let f (fn ((n 1)) (while n (set n (+ n 1))))) (say 3) (run (call f))", words: "3 fuel"},
		{page: "(let f (fn ((x 1)) (back (call f x)))) (say 2) (say (call f))", words: "2 many"}, {page: "(let t (thing)) (say 1) (for i 0 99 (put t i i))", words: "1 many"}, {page: "(for i 0 999 (say i))", words: strings.TrimSuffix(strings.Join(hundreds(), "/"), "/") + " many"},
	}
}

// hundreds are the first 200 numbers, as they are said.
func hundreds() []string {
	return manyOf(200, func(n int64) string { return strconv.FormatInt(n, 10) })
}

// countingUp says n, once it has counted so far: 9 + 7n Steps and one for each do.
func countingUp(n int, dos int) string {
	return "(vars n) (set n 0) (while (< n " + strconv.Itoa(n) + ") (set n (+ n 1))) (say n)" + strings.Repeat(" (do)", dos)
}

func TestFuelOfTheBench(t *testing.T) {
	just, over := countingUp(284, 3), countingUp(284, 4)
	if got := impl.Played(signsOf(t, just), impl.MaxFuel); got.Steps != 2000 || impl.Words(got) != "284 end" {
		t.Fatalf("the test itself is wrong: %s", showShow(got))
	}
	most, more := countingUp(2855, 6), countingUp(2855, 7)
	if got := impl.Played(signsOf(t, most), impl.MaxFuel); got.Steps != impl.MaxFuel || impl.Words(got) != "2855 end" {
		t.Fatalf("the test itself is wrong: %s", showShow(got))
	}
	justSigns, overSigns := strconv.Itoa(len(signsOf(t, just))), strconv.Itoa(len(signsOf(t, over)))
	mostSigns, moreSigns := strconv.Itoa(len(signsOf(t, most))), strconv.Itoa(len(signsOf(t, more)))
	for _, list := range [][]benchLine{
		{{"play " + just, justSigns}, {"run", "284 end"}, {"play " + over, overSigns}, {"run", "284 fuel"}, {"low", "284 end"}, {"same", "y"}, {"fuel 2001", "ok"}, {"run", "284 end"}, {"fuel 2000", "ok"}, {"run", "284 fuel"}, {"fuel 1999", "ok"}, {"play " + just, justSigns}, {"run", "284 fuel"}},
		// low has its own fuel; what is set is not what low has.
		{{"play " + most, mostSigns}, {"run", "fuel"}, {"low", "2855 end"}, {"same", "y"}, {"fuel 20000", "ok"}, {"run", "2855 end"}, {"low", "2855 end"}, {"fuel 19999", "ok"}, {"run", "2855 fuel"}, {"low", "2855 end"}, {"fuel 0", "ok"}, {"run", "fuel"}, {"low", "2855 end"}, {"same", "y"}},
		{{"fuel 20000", "ok"}, {"play " + more, moreSigns}, {"run", "2855 fuel"}, {"low", "2855 fuel"}, {"same", "y"}},
		// It stays for each play that comes, and what was answered ahead of it stays.
		{{"play (say 1) (say 2)", "8"}, {"run", "1/2 end"}, {"fuel 2", "ok"}, {"run", "1 fuel"}, {"play (say 3) (say 4)", "8"}, {"run", "3 fuel"}, {"fuel 4", "ok"}, {"run", "3/4 end"}, {"fuel 3", "ok"}, {"run", "3 fuel"}, {"fuel 0", "ok"}, {"run", "fuel"}, {"play", "0"}, {"run", "end"}, {"fuel 999999999", "error"}, {"play (do)", "3"}, {"run", "fuel"}, {"fuel 1", "ok"}, {"run", "end"}},
		{{"fuel 0", "ok"}, {"fuel 1", "ok"}, {"fuel 20000", "ok"}, {"fuel 20001", "error"}, {"fuel -1", "error"}, {"fuel 00", "error"}},
		{{"pass 0", "-"}, {"pass 7", "-"}, {"pass 8", "error"}, {"pass -1", "error"}, {"fresh 0", "v0"}, {"fresh 99999", "v99999"}, {"fresh 100000", "error"}, {"fresh -1", "error"}},
	} {
		checkLines(t, list)
	}
}

// What a line changes is changed for the lines behind it, and for none ahead of it.
func TestBenchLineBehindLine(t *testing.T) {
	for _, rows := range [][]string{
		{"new > -", "play (let a 1) > 5", "new > let", "fresh 0 > v0", "play (vars v0) > 4", "new > -", "fresh 0 > v1", "play > 0", "fresh 0 > v0", "old > y", "play (hidden) > 3", "old > n"},
		{"play (say 1) > 4", "run > 1 end", "play (say 2) > 4", "run > 2 end", "run > 2 end", "play (say q) > error", "run > 2 end", "play (let a > error", "run > 2 end", "play > 0", "run > end", "play (say q) > error", "run > end"},
		// Nothing but play and fuel changes something.
		{"play (let a 3) (say a) > 9", "old > n", "pass 7 > (vars v0) (set v0 3) (say v0)", "low > 3 end", "same > y", "grow > 4", "new > let", "free (say b) > b", "fresh 0 > v0", "free (let v0 1) > -", "fresh 0 > v0", "pass 0 > (let a 3) (say a)", "pass 7 > (vars v0) (set v0 3) (say v0)", "run > 3 end"},
	} {
		checkLines(t, asked(rows...))
	}
}

// What is refused changes nothing, and is an error wherever it stands.
func TestWhatTheBenchRefuses(t *testing.T) {
	lines := refusedLines()
	if len(lines) < 500 {
		t.Errorf("only %d lines", len(lines))
	}
	ahead := [][]string{{}, {"play (let a 1) (say (join a 'x')) (say a)", "fuel 5"}, {"play (hidden)"}, {"play (vars v0) (say (+ 1 none))", "fuel 20000"}, {"fuel 0", "play"}}
	behind := []string{"run", "old", "new", "pass 0", "pass 7", "low", "same", "grow", "fresh 0"}
	for _, first := range ahead {
		known := impl.Bench(whole(slices.Concat(first, behind)))
		for n, line := range lines {
			text := whole(slices.Concat(first, []string{line}, behind))
			answers := strings.SplitAfter(known, "\n")
			want := strings.Join(slices.Insert(answers, len(first), "error\n"), "")
			if len(text) > impl.MaxBench {
				t.Errorf("%s: the test itself is wrong", short(line))
			}
			if got := impl.Bench(text); got != want {
				t.Errorf("behind %q, %s: %s; want %s", first, short(line), apart(got, want), apart(want, got))
			}
			if n%5 == 0 && len(text) < 1000 {
				checkBench(t, text)
			}
		}
	}
	for _, line := range lines {
		for _, text := range []string{line, line + "\n", "\n" + line, line + "\n\n"} {
			if got := impl.Bench(text); got != "error\n" {
				t.Errorf("%s: %q", short(text), got)
			}
		}
		if len(line)*3 < impl.MaxBench-10 {
			if got := impl.Bench(line + "\n" + line + "\n" + line); got != "error\nerror\nerror\n" {
				t.Errorf("%s three times: %q", short(line), got)
			}
		}
	}
}

// All lines of a few words, with one blank between: a word that is none is a blank
// too many.
func TestBenchOfAllLinesOfFewWords(t *testing.T) {
	t.Parallel()
	words := []string{"play", "fuel", "run", "old", "new", "pass", "low", "same", "grow", "free", "fresh", "what", "", "0", "7", "8", "01", "-1", "20000", "20001", "99999", "100000", "(say", "1)", "(say a)", "(let a 1)", "a", "'a", ")"}
	var lines []string
	for _, a := range words {
		lines = append(lines, a)
		for _, b := range words {
			lines = append(lines, a+" "+b)
			for _, c := range words {
				lines = append(lines, a+" "+b+" "+c)
			}
		}
	}
	right := 0
	for len(lines) > 0 {
		some := min(len(lines), impl.MaxLines-5)
		got := checkBench(t, "play (let b 2) (say b)\n"+whole(lines[:some])+"run\nnew\nfresh 0")
		right += some + 4 - strings.Count(got, "error\n")
		lines = lines[some:]
	}
	if right < 1000 {
		t.Errorf("only %d lines were right", right)
	}
}

// Each byte alone, beside a word, within one, and in a TEXT.
func TestBenchWithEachByte(t *testing.T) {
	for n := range 256 {
		b := string([]byte{byte(n)})
		for _, text := range []string{
			b, b + b, b + "run", "run" + b, "ru" + b + "n", "run " + b, "pass" + b + "3", "pass " + b, "pass 3" + b, "fuel 1" + b + "2", "play" + b + "(say 1)", "play (say 1)" + b + "(say 2)", "play (say" + b + "1)", "play (say '" + b + "')", "play " + b, "free (say a" + b + "b)", "free" + b + "(say a)", "free " + b, "run\n" + b + "\nrun", "run\n" + b + "run",
		} {
			checkBench(t, text)
			checkBench(t, "play (say 3)\n"+text+"\nrun\npass 0")
		}
	}
}

func TestLinesOfTheBench(t *testing.T) {
	for _, c := range []struct{ text, answers string }{
		{"", ""}, {"\n", ""}, {"\n\n\n", ""}, {"run", "end\n"}, {"run\n", "end\n"}, {"\nrun", "end\n"}, {"\n\nrun\n\n", "end\n"}, {"run\nrun", "end\nend\n"}, {"run\nrun\n", "end\nend\n"}, {"run\n\n\n\nrun", "end\nend\n"},
		{" ", "error\n"}, {" \n", "error\n"}, {"\n ", "error\n"}, {" \n ", "error\nerror\n"}, {"\r\n", "error\n"}, {"run\r\nrun", "error\nend\n"}, {"run\vrun", "error\n"}, {"run\x00\nrun", "error\nend\n"}, {"\u2028run", "error\n"}, {"run\u0085run", "error\n"},
		{"play (say 1)\nrun", "4\n1 end\n"}, {"play (say\n1)\nrun", "error\nerror\nend\n"}, {"play\n(say 1)\nrun", "0\nerror\nend\n"}, {"fuel\n5", "error\nerror\n"}, {"play (say 'a\nb')", "error\nerror\n"}, {"play \n\nrun", "0\nend\n"},
	} {
		if got := checkBench(t, c.text); got != c.answers {
			t.Errorf("%q: %q; want %q", c.text, got, c.answers)
		}
	}
}

func TestBenchOfMaxBenchBytes(t *testing.T) {
	filled := func(ahead string, one string, behind string, bytes int) string {
		room := bytes - len(ahead) - len(behind)
		return ahead + strings.Repeat(one, room/len(one)) + strings.Repeat(one[len(one)-1:], room%len(one)) + behind
	}
	for _, c := range []struct{ ahead, one, behind, answers string }{
		{"play (say 1)", " ", "", "4\n"}, {"play (say 1)", " ", "\nrun", "4\n1 end\n"}, {"run\nplay (say 1) ", " ", "\nrun\n", "end\n4\n1 end\n"}, {"", "a", "", "error\n"}, {"", "a", "\n", "error\n"}, {"", " ", "", "error\n"}, {"run\n", "x", "", "end\nerror\n"}, {"run\nplay ", "(", "\nrun", "end\nerror\nend\n"}, {"play ", "é", "", "error\n"}, {"free (say a) ", " ", "(say b)", "a b\n"}, {"", "\xff", "", "error\n"}, {"fuel ", "0", "", "error\n"},
		{"play (say 1) (run (thing", " 1", " 1))\nrun", "error\nend\n"}, {"run\nplay (run (thing " + strings.Repeat("1 ", 1990), " ", "))\nold\n", "end\n1996\ny\n"},
	} {
		for _, bytes := range []int{impl.MaxBench - 1, impl.MaxBench, impl.MaxBench + 1, impl.MaxBench + 2, 2 * impl.MaxBench, 100000} {
			text, want := filled(c.ahead, c.one, c.behind, bytes), c.answers
			if len(text) != bytes {
				t.Fatalf("the test itself is wrong: %d", len(text))
			}
			if bytes > impl.MaxBench {
				want = ""
			}
			if got := checkBench(t, text); got != want {
				t.Errorf("%s: %q; want %q", short(text), got, want)
			}
		}
	}
	// The byte 10 of the last line counts as each other one does.
	text := filled("", "a", "", impl.MaxBench)
	if first, second := impl.Bench(text), impl.Bench(text+"\n"); first != "error\n" || second != "" {
		t.Errorf("%q, %q", first, second)
	}
	// A play of just MaxSigns signs, and one more: on the bench as in the chapters.
	for _, signs := range []int{impl.MaxSigns - 1, impl.MaxSigns, impl.MaxSigns + 1} {
		// Its thing has more than 60, which is too much at once.
		want := strconv.Itoa(signs) + "\nmany\n"
		if signs > impl.MaxSigns {
			want = "error\nend\n"
		}
		if got := checkBench(t, "play "+impl.ShowSigns(filledUp("FILL", signs))+"\nrun"); got != want {
			t.Errorf("%d signs: %q; want %q", signs, got, want)
		}
	}
}

func TestBenchOfMaxLines(t *testing.T) {
	for lines := range 200 {
		asLines := []string{strings.Repeat("run\n", lines), strings.Repeat("\n", lines), strings.Repeat("x\n", lines), strings.Repeat(" \n", lines)}
		wants := []string{strings.Repeat("end\n", lines), "", strings.Repeat("error\n", lines), strings.Repeat("error\n", lines)}
		if lines > 0 {
			// The first one, one in the middle or the last one alone has a byte; the last
			// one lacks its byte 10.
			mid := lines / 2
			asLines = append(asLines, "run"+strings.Repeat("\n", lines), strings.Repeat("\n", lines-1)+"run\n", strings.Repeat("\n", mid)+"run"+strings.Repeat("\n", lines-mid), strings.Repeat("\n", lines-1)+"run", strings.Repeat("run\n", lines-1)+"run", strings.Repeat("x\n", lines-1)+" ")
			wants = append(wants, "end\n", "end\n", "end\n", "end\n", strings.Repeat("end\n", lines), strings.Repeat("error\n", lines))
		}
		for n, text := range asLines {
			want := wants[n]
			if lines > impl.MaxLines {
				want = ""
			}
			if got := checkBench(t, text); got != want {
				t.Errorf("%d lines, %s: %s; want %s", lines, short(text), short(got), short(want))
			}
		}
	}
	// A byte 10 ends a line and begins none.
	full := strings.Repeat("run\n", impl.MaxLines)
	for _, c := range []struct{ text, answers string }{{full, strings.Repeat("end\n", impl.MaxLines)}, {strings.TrimSuffix(full, "\n"), strings.Repeat("end\n", impl.MaxLines)}, {full + "\n", ""}, {full + "r", ""}, {full + " ", ""}, {"\n" + full, ""}, {strings.Repeat("\n", impl.MaxLines), ""}, {strings.Repeat("\n", impl.MaxLines) + "run", ""}, {strings.Repeat("\n", impl.MaxLines-1) + "run", "end\n"}, {strings.Repeat("\n", impl.MaxBench), ""}, {strings.Repeat("run\n", impl.MaxBench/4), ""}} {
		if got := impl.Bench(c.text); got != c.answers {
			t.Errorf("%s: %s", short(c.text), short(got))
		}
	}
}

// There is one answer for each line that has a byte, and what comes later changes
// none of the answers ahead of it: at lines made up, right and wrong ones.
func TestBenchOfMadeLines(t *testing.T) {
	t.Parallel()
	pages := slices.Concat(oldTongue(), []string{"(hidden)", "(say q)", "(vars v0 v1) (say 'v2')"})
	for _, c := range keepers()[:6] {
		pages = append(pages, c.page)
	}
	for _, c := range lowerAloneCases() {
		pages = append(pages, c.page)
	}
	for _, l := range madePlays(40) {
		if len(l) < 100 {
			pages = append(pages, impl.ShowSigns(l))
		}
	}
	refused := refusedLines()
	r := rand.New(rand.NewPCG(20, 20))
	one := func(of []string) string { return of[r.IntN(len(of))] }
	asked, wrong := 0, 0
	for range 250 {
		var lines []string
		for range 1 + r.IntN(30) {
			switch r.IntN(9) {
			case 0:
				lines = append(lines, "")
			case 1:
				if line := one(refused); len(line) < 200 {
					lines = append(lines, line)
				}
			case 2, 3:
				lines = append(lines, "play "+one(pages))
			case 4:
				lines = append(lines, "fuel "+strconv.Itoa(r.IntN(60)), "free "+one(pages))
			case 5:
				lines = append(lines, one([]string{"fresh ", "pass "})+strconv.Itoa(r.IntN(10)))
			default:
				lines = append(lines, one([]string{"run", "old", "new", "low", "same", "grow"}))
			}
		}
		for len(whole(lines)) > impl.MaxBench || len(lines) > impl.MaxLines {
			lines = lines[1:]
		}
		got := checkBench(t, whole(lines))
		answers := strings.SplitAfter(got, "\n")
		there := 0
		for n, line := range lines {
			if line != "" {
				there++
			}
			if ahead := strings.Join(answers[:there], ""); n%3 == 0 && impl.Bench(whole(lines[:n+1])) != ahead {
				t.Fatalf("%q: the first %d are answered otherwise", lines, n+1)
			}
		}
		if len(answers) != there+1 || answers[there] != "" || slices.Contains(answers[:there], "\n") {
			t.Fatalf("%q: %d answers of %d lines", lines, len(answers)-1, there)
		}
		asked += there
		wrong += strings.Count(got, "error\n")
	}
	if asked < 2000 || wrong < 200 || asked-wrong < 1000 {
		t.Errorf("%d lines were asked, %d of them refused", asked, wrong)
	}
}

// Bytes made up, and pieces of lines.
func TestBenchOfMadeBytes(t *testing.T) {
	r := rand.New(rand.NewPCG(20, 21))
	pieces := []string{"run", "play ", "play", "free ", "fuel ", "pass ", "fresh ", "low", "same", "grow", "old", "new", "\n", "\n", "\n", " ", "0", "1", "7", "12", "-", "(say ", "(", ")", "a", "'", "(let a ", "(do)", "(hidden)", "(for i 0 2 ", "none", "\x00", "\xff", "é", "\r", "\t"}
	for range 3000 {
		text := ""
		for range r.IntN(20) {
			text += pieces[r.IntN(len(pieces))]
		}
		checkBench(t, text)
	}
	for range 500 {
		bytes := make([]byte, r.IntN(400))
		for n := range bytes {
			bytes[n] = byte(r.IntN(256))
		}
		checkBench(t, string(bytes))
	}
}

// The line "bench" of the document's chapter Ways.
func TestWordsAreKeysOfAMapOfClosures(t *testing.T) {
	const path = "../impl/l20_bench.go"
	functions := map[string]bool{}
	hasNode(t, path, func(n ast.Node) bool {
		if spec, is := n.(*ast.TypeSpec); is {
			_, functions[spec.Name.Name] = spec.Type.(*ast.FuncType)
		}
		return false
	})
	isFunction := func(e ast.Expr) bool {
		if name, is := e.(*ast.Ident); is {
			return functions[name.Name]
		}
		_, is := e.(*ast.FuncType)
		return is
	}
	words := 0
	hasNode(t, path, func(n ast.Node) bool {
		f, is := n.(*ast.FuncDecl)
		if !is || f.Body == nil {
			return false
		}
		ast.Inspect(f.Body, func(inner ast.Node) bool {
			if literal, is := inner.(*ast.CompositeLit); is {
				if m, is := literal.Type.(*ast.MapType); is && isFunction(m.Value) {
					words = max(words, len(literal.Elts))
				}
			}
			return true
		})
		return false
	})
	if words != 11 {
		t.Errorf("a map of functions, a literal inside a function, has %d words", words)
	}
}
