package tests

import (
	"regexp"
	"slices"
	"strconv"
	"strings"

	"loop.example/g00544/impl"
)

// The document's words about the bench, as they stand there: the tests hold the
// program against these. The program cuts a line at its first blank and asks for
// the word; this asks for the whole line, one pattern after the other, and leans on
// the slow readings of the chapters.

const numberThere = `(0|[1-9][0-9]{0,8})`

type slowBench struct {
	play []string
	fuel int64
}

// A slowLine is what a line looks like, and what is answered of what stands behind
// its word; false where it is refused.
type slowLine struct {
	form   *regexp.Regexp
	answer func(b *slowBench, behind string) (string, bool)
}

func slowLineOf(form string, answer func(b *slowBench, behind string) (string, bool)) slowLine {
	return slowLine{regexp.MustCompile(`(?s)\A(?:` + form + `)\z`), answer}
}

var slowLines = []slowLine{
	slowLineOf(`play`, func(b *slowBench, _ string) (string, bool) { return b.setPlay("") }),
	slowLineOf(`play (.*)`, func(b *slowBench, behind string) (string, bool) { return b.setPlay(behind) }),
	slowLineOf(`fuel `+numberThere, func(b *slowBench, behind string) (string, bool) {
		if n, is := upTo(behind, 20000); is {
			b.fuel = n
			return "ok", true
		}
		return "", false
	}),
	slowLineOf(`run()`, func(b *slowBench, _ string) (string, bool) { return wordsSlowly(b.shown()), true }),
	slowLineOf(`old()`, func(b *slowBench, _ string) (string, bool) { return letterOf(oldSlowly(b.play).old), true }),
	slowLineOf(`new()`, func(b *slowBench, _ string) (string, bool) { return besides(oldSlowly(b.play).new), true }),
	slowLineOf(`pass `+numberThere, func(b *slowBench, behind string) (string, bool) {
		if n, is := upTo(behind, 7); is {
			return pageSlowly(lowerSlowly(b.play).passes[n]), true
		}
		return "", false
	}),
	slowLineOf(`low()`, func(b *slowBench, _ string) (string, bool) { return wordsSlowly(b.shownLow()), b.saysAgain() }),
	slowLineOf(`same()`, func(b *slowBench, _ string) (string, bool) {
		return letterOf(alikeSlowly(b.shown(), b.shownLow())), b.saysAgain()
	}),
	slowLineOf(`grow()`, func(b *slowBench, _ string) (string, bool) {
		return strconv.Itoa(len(b.lowered()) - len(b.play)), b.saysAgain()
	}),
	slowLineOf(`free (.*)`, func(_ *slowBench, behind string) (string, bool) {
		l, is := cutSlowly(behind)
		return besides(scopeSlowly(l).free), is && playSlowly(l)
	}),
	slowLineOf(`fresh `+numberThere, func(b *slowBench, behind string) (string, bool) {
		n, is := upTo(behind, 99999)
		return freshSlowly(b.play, n), is
	}),
}

func upTo(digits string, most int64) (int64, bool) {
	n, err := strconv.ParseInt(digits, 10, 64)
	return n, err == nil && n <= most
}

func (b *slowBench) setPlay(page string) (string, bool) {
	l, is := cutSlowly(page)
	if !is || !scopeSlowly(l).scoped {
		return "", false
	}
	b.play = l
	return strconv.Itoa(len(l)), true
}

func (b *slowBench) lowered() []string { return lowerSlowly(b.play).lowered }

func (b *slowBench) saysAgain() bool { return len(b.play) == 0 || len(b.lowered()) > 0 }

func (b *slowBench) shown() impl.Show { return playedSlowly(b.play, b.fuel) }

func (b *slowBench) shownLow() impl.Show { return playedSlowly(b.lowered(), 20000) }

func wordsSlowly(s impl.Show) string {
	end := []string{"end", "kind", "over", "key", "fuel", "many"}[s.Fault]
	if len(s.Said) > 0 {
		return strings.Join(s.Said, "/") + " " + end
	}
	return end
}

func letterOf(is bool) string { return map[bool]string{true: "y", false: "n"}[is] }

func besides(names []string) string { return pageSlowly(names) }

// pageSlowly is for signs alone: a blank stands between two, and none beside the
// inner side of a paren.
func pageSlowly(l []string) string {
	if len(l) == 0 {
		return "-"
	}
	return strings.ReplaceAll(strings.ReplaceAll(strings.Join(l, " "), "( ", "("), " )", ")")
}

func (b *slowBench) answer(line string) string {
	for _, s := range slowLines {
		found := s.form.FindStringSubmatch(line)
		if found == nil {
			continue
		}
		if answer, is := s.answer(b, found[len(found)-1]); is {
			return answer
		}
	}
	return "error"
}

var oneLine = regexp.MustCompile(`[^\n]*\n|[^\n]+\z`)

func linesSlowly(text string) []string {
	var out []string
	for _, line := range oneLine.FindAllString(text, -1) {
		out = append(out, strings.TrimSuffix(line, "\n"))
	}
	return out
}

func benchSlowly(text string) string {
	lines := linesSlowly(text)
	if len(text) > 8000 || len(lines) > 80 {
		return ""
	}
	b, out := &slowBench{fuel: 2000}, ""
	for _, line := range lines {
		if line != "" {
			out += b.answer(line) + "\n"
		}
	}
	return out
}

// A benchLine is a line and what is answered of it.
type benchLine struct{ line, answer string }

// asked are written as LINE > ANSWER: there is no > in a right line.
func asked(rows ...string) []benchLine {
	var out []benchLine
	for _, row := range rows {
		at := strings.LastIndex(row, " > ")
		out = append(out, benchLine{row[:at], row[at+len(" > "):]})
	}
	return out
}

func benchLines(list []benchLine) (lines []string, answers []string) {
	for _, one := range list {
		lines, answers = append(lines, one.line), append(answers, one.answer)
	}
	return lines, answers
}

// whole has a byte 10 behind each of them.
func whole(lines []string) string {
	out := ""
	for _, line := range lines {
		out += line + "\n"
	}
	return out
}

// allLines are all lines that tell something of the play of a page, with what the
// functions of the chapters answer.
func allLines(l []string, fuel int64) []benchLine {
	low, lowered := "error", impl.Lowered(l)
	same, grow := low, low
	if len(lowered) > 0 || len(l) == 0 {
		low = impl.Words(impl.Played(lowered, impl.MaxFuel))
		same = letterOf(impl.Alike(impl.Played(l, fuel), impl.Played(lowered, impl.MaxFuel)))
		grow = strconv.FormatInt(impl.Growth(l), 10)
	}
	out := []benchLine{
		{"run", impl.Words(impl.Played(l, fuel))}, {"old", letterOf(impl.OldOk(l))}, {"new", orDash(strings.Join(impl.NewIn(l), " "))},
		{"low", low}, {"same", same}, {"grow", grow},
	}
	for n := range int64(passCount + 1) {
		out = append(out, benchLine{"pass " + strconv.FormatInt(n, 10), orDash(impl.ShowSigns(impl.Passes(l, n)))})
	}
	for _, n := range []int64{0, 1, 7, 99999} {
		out = append(out, benchLine{"fresh " + strconv.FormatInt(n, 10), impl.Fresh(l, n)})
	}
	return out
}

func orDash(s string) string {
	if s == "" {
		return "-"
	}
	return s
}

// keepers are plays with functions that keep a name of their turn, each of which
// changes what it kept.
func keepers() []playCase {
	return []playCase{
		{page: "(let t (thing)) (for i 0 3 (do (let n (* i 10)) (put t i (fn () (set n (+ n 1)) (back n))))) (say (call (get t 0))) (say (call (get t 0))) (say (call (get t 2))) (say (call (get t 1))) (say (call (get t 0)))", words: "1/2/21/11/3 end"},
		// The for's own NAME, and one that all turns share.
		{page: "(let t (thing)) (for i 0 3 (put t i (fn (d) (set i (+ i d)) (back i)))) (say (call (get t 0) 5)) (say (call (get t 2) 5)) (say (call (get t 0) 5)) (say (call (get t 1) 0))", words: "5/7/10/1 end"},
		{page: "(let t (thing)) (let n 0) (while (< n 3) (do (let k (* n 100)) (put t n (fn () (set k (+ k n)) (back k))) (set n (+ n 1)))) (say (call (get t 0))) (set n 7) (say (call (get t 0))) (say (call (get t 2))) (say (call (get t 1)))", words: "3/10/207/107 end"},
		{page: "(let t (thing)) (let n 5) (for i 0 2 (put t i (fn () (set n (+ n 1)) (back n)))) (say (call (get t 0))) (say (call (get t 1))) (say n)", words: "6/7/7 end"},
		// Two that keep the same one, turns within turns, a fn within a fn.
		{page: "(let up (thing)) (let at (thing)) (for i 0 2 (do (let n i) (put up i (fn () (set n (+ n 10)))) (put at i (fn () (back n))))) (run (call (get up 1))) (run (call (get up 1))) (run (call (get up 0))) (say (call (get at 0))) (say (call (get at 1)))", words: "10/21 end"},
		{page: "(let t (thing)) (for i 0 2 (do (let a i) (for j 0 2 (do (let b j) (put t (+ (* i 2) j) (fn () (set a (+ a 1)) (set b (+ b 10)) (back (+ (* a 100) b)))))))) (say (call (get t 0))) (say (call (get t 1))) (say (call (get t 2))) (say (call (get t 3))) (say (call (get t 0)))", words: "110/211/210/311/320 end"},
		{page: "(let t (thing)) (for i 0 2 (do (let n i) (put t i (fn () (back (fn () (set n (+ n 1)) (back n))))))) (let a (call (get t 0))) (let b (call (get t 0))) (say (call a)) (say (call b)) (say (call (call (get t 1)))) (say (call a))", words: "1/2/2/3 end"},
		// Ways out of the turn.
		{page: "(let t (thing)) (for i 0 9 (do (let n i) (put t i (fn () (set n (- n 1)) (back n))) (if (= i 2) (leave) (do)))) (say (call (get t 0))) (say (call (get t 2))) (say (call (get t 2))) (say (get t 3))", words: "-1/1/0/none end"},
		{page: "(let t (thing)) (for i 0 4 (do (let n i) (if (< (* i (- i 3)) 0) (next) (do)) (put t i (fn () (set n (* n 2)) (back n))))) (say (get t 1)) (say (call (get t 3))) (say (call (get t 3))) (say (call (get t 0)))", words: "none/6/12/0 end"},
		{page: "(let f (fn (m) (for i 0 9 (do (let n i) (let g (fn () (set n (+ n 100)) (back n))) (if (= i m) (back g) (do)))))) (let g (call f 3)) (let h (call f 5)) (say (call g)) (say (call h)) (say (call g)) (say (call f 20))", words: "103/105/203/none end"},
		// With all else that is new.
		{page: "(let t (thing)) (let u (thing)) (for i 0 2 (do (hidden p) (hput p u i) (put t i (fn () (hput p u (+ (hget p u) 5)) (back (hget p u)))))) (say (call (get t 0))) (say (call (get t 1))) (say (call (get t 0)))", words: "5/6/10 end"},
		{page: "(let t (thing)) (for i 0 2 (do (take (a b) (thing i 'x')) (put t i (fn ((d (+ a 1))) (set a d) (set b (join b a)) (back b))))) (say (call (get t 0))) (say (call (get t 1))) (say (call (get t 0))) (say (call (get t 1) 7))", words: "x1/x2/x12/x27 end"},
		{page: "(let t (thing)) (for i 0 2 (do (put t i (fn () (set k (join k i)) (back k))) (let k 'k'))) (say (call (get t 1))) (say (call (get t 1))) (say (call (get t 0)))", words: "k1/k11/k0 end"},
		// A fault in what one of them does.
		{page: "(let t (thing)) (for i 0 3 (do (let n (- 2 i)) (put t i (fn () (set n (- n 1)) (if (< n 0) (run (+ n none)) (do)) (back n))))) (say (call (get t 0))) (say (call (get t 1))) (say (call (get t 2))) (say 'z')", words: "1/0 kind"},
		{page: "(let t (thing)) (for i 1 3 (do (let n i) (put t i (fn () (set n (* n 99999)) (back n))))) (say (call (get t 2))) (say (call (get t 1))) (say (call (get t 2)))", words: "199998/99999 over"},
		{page: "(let t (thing)) (for i 0 2 (do (hidden p) (let n (thing)) (hput p n i) (put t i (fn () (say (hget p n)) (set n (thing)))))) (run (call (get t 0))) (run (call (get t 1))) (run (call (get t 0)))", words: "0/1 key"},
		{page: "(let t (thing)) (for i 0 2 (do (let n i) (put t i (fn () (while 1 (set n (+ n 1))))))) (say 1) (run (call (get t 1)))", words: "1 fuel"},
		{page: "(let t (thing)) (for i 0 2 (do (let n i) (put t i (fn () (set n (+ n 1)) (if (= n 40) (say n) (do)) (run (call (get t i))))))) (run (call (get t 0)))", words: "40 many"},
	}
}

// The lines from here on are refused, whatever is ahead of them.
func unknownWords() []string {
	return []string{
		"what", "r", "ru", "runs", "rerun", "Run", "RUN", "olds", "ne", "news", "passes", "lower", "sames", "grows", "frees", "freshly", "plays", "pla", "fuels", "fuel5", "pass7", "fresh0", "play(say 1)", "play()", "free(say a)", "words", "help", "error", "ok", "y", "n", "end", "none",
		"-", "--", "0", "5", "(", ")", "(say 1)", "(do)", "'run'", "'", "#run", "run;", "run,old", "run/", "é", "\xff", "\x00", "\t", "\r", "run\r", "run\t", "\trun", "\x00run", "run\x00", "run\xa0", "\u00a0run", "\ufeffrun", "fuel\t5", "play\t(say 1)", "free\t(say a)", "play\r", "what 5", "what (say 1)", "Play (say 1)", "Fuel 5", strings.Repeat("run", 500),
	}
}

func wordsTooMany() []string {
	var out []string
	for _, word := range []string{"run", "old", "new", "low", "same", "grow"} {
		out = append(out, word+" 1", word+" 0", word+" "+word, word+" (say 1)", word+" x", word+" -", word+" ''")
	}
	for _, word := range []string{"fuel", "pass", "fresh"} {
		out = append(out, word+" 1 2", word+" 1 1", word+" 1 x", word+" 1 (say 1)", word+" 5 "+word, word+" "+word+" 5")
	}
	return out
}

func wordsTooFew() []string { return []string{"fuel", "pass", "fresh", "free"} }

func blanksTooMany() []string {
	out := []string{" ", "  ", "     ", " play", "  play", " play (say 1)", " free", " free (say 1)", " what"}
	for _, word := range []string{"run", "old", "new", "low", "same", "grow"} {
		out = append(out, " "+word, "  "+word, word+" ", word+"  ", " "+word+" ")
	}
	for _, word := range []string{"fuel", "pass", "fresh"} {
		out = append(out, word+" ", word+"  ", " "+word+" 5", word+"  5", word+" 5 ", word+"   5", word+"  5 ", " "+word+"  5 ", word+" 5  ", word+" \t5", word+" 5\t", word+" 5\r")
	}
	return out
}

func noNumbers() []string {
	var out []string
	for _, word := range []string{"fuel", "pass", "fresh"} {
		for _, no := range []string{"00", "01", "05", "007", "0000000001", "-0", "-00", "+0", "+1", "+5", "--1", "1000000000", "0999999999", "9999999999", "99999999999999999999", "x", "a", "five", "none", "n", "'5'", "''", "5a", "a5", "5'", "(5)", "5)", "(", "1.0", "5.", ".5", "1e1", "0x1", "1_0", "1,0", "-", "+", "- 1", "é", "\xff", "\x005", "5\x00", "٣"} {
			out = append(out, word+" "+no)
		}
	}
	return out
}

func numbersOutOfRange() []string {
	var out []string
	for _, c := range []struct {
		word  string
		first int
	}{{"fuel", 20001}, {"pass", 8}, {"fresh", 100000}} {
		for _, n := range []int{-1, -2, -9, -c.first, -999999999, c.first, c.first + 1, 2 * c.first, 1000000, 999999999} {
			out = append(out, c.word+" "+strconv.Itoa(n))
		}
	}
	return append(out, "pass 9", "pass 10", "pass 70", "pass 77", "pass 256", "pass 263", "fuel 20002", "fuel 30000", "fuel 65536", "fresh 165536")
}

// noPlays are pages of which a sign is none, or that are no play.
func noPlays() []string {
	return []string{
		"a", "5", "'a'", "none", "+", "(", ")", "()", "( )", "(do", "do)", "(do))", ")(", "((do))", "(say)", "(say 1 2)", "(say 1) 5", "5 (say 1)", "(say 1) (", "(let)", "(let a)", "(let a 1", "(let do 1)", "(let 5 1)", "(take a 1)", "(take () 1)", "(for i 0 1)", "(if 1 (do))", "(if 1 (let a 1) (do))", "(run (fn x))", "(what)", "(+ 1 2)", "(vars 5)", "(hidden 5)", "(leave 1)", "-", "--", "play", "run",
		"(say A)", "(say 'a)", "(say a')", "(say 'A')", "(say 01)", "(say -0)", "(say +1)", "(say 1000000000)", "(say abcdefghi)", "(say é)", "(say \xff)", "(say \x00)", "(say\t1)", "(say 1)\r", "(say 1) .", "(say 'a\tb')", "'", "''", "(say '" + strings.Repeat("q", 61) + "')", strings.Repeat("(", 3000), strings.Repeat(")", 3000), strings.Repeat("(do ", 61) + strings.Repeat(")", 61), strings.Repeat("(do) ", 667), strings.Repeat("(do ", 1000) + strings.Repeat(")", 1000),
	}
}

// notScoped are pages that are a play, and not Scoped.
func notScoped() []string {
	return append(brokenPages(), "(say q)", "(set q 1)", "(let a 1) (say (+ a b))", "(say (join q))", "(hidden p) (hput q 1 2)", "(hidden p) (say p)", "(let p 1) (hput p 1 2)", "(run (hget p 1))", "(take (a a) 1)", "(for i 0 1 (do)) (say i)", "(do (let a 1)) (say a)", "(run (fn () (leave)))")
}

func refusedLines() []string {
	out := slices.Concat(unknownWords(), wordsTooMany(), wordsTooFew(), blanksTooMany(), noNumbers(), numbersOutOfRange())
	for _, page := range noPlays() {
		out = append(out, "play "+page, "free "+page)
	}
	for _, page := range notScoped() {
		out = append(out, "play "+page)
	}
	return out
}
