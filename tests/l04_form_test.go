package tests

import (
	"math"
	"slices"
	"strings"
	"testing"

	"loop.example/g00544/impl"
)

func signsOf(t *testing.T, page string) []string {
	t.Helper()
	l, is := impl.SignsOf(page)
	if !is {
		t.Fatalf("%q are no signs", page)
	}
	return l
}

func TestMaxDepth(t *testing.T) {
	if impl.MaxDepth != 60 {
		t.Errorf("MaxDepth is %d", impl.MaxDepth)
	}
}

func TestReserved(t *testing.T) {
	for _, s := range reservedWords() {
		if !impl.Reserved(s) {
			t.Errorf("%q is reserved", s)
		}
		for _, near := range []string{s + "0", s + "q", "q" + s, s[1:], s[:1] + "q" + s[1:], s + " ", " " + s, strings.ToUpper(s), "'" + s + "'", "(" + s, s + "\x00"} {
			if impl.Reserved(near) != slices.Contains(reservedWords(), near) {
				t.Errorf("Reserved(%q) is %v", near, impl.Reserved(near))
			}
		}
	}
	free := []string{"a", "x", "x1", "v0", "v12", "name", "sum", "deed", "param", "play", "nones", "non", "els", "else", "then", "lets", "given", "old", "new", "end", "abcdefgh", "z9"}
	for _, s := range slices.Concat(free, wrongSigns(), marks(), writtenNumbers(), []string{"(", ")", "''", "'none'", "'let'", "NAME", "SUM"}) {
		if impl.Reserved(s) {
			t.Errorf("%q is not reserved", s)
		}
	}
}

func wholeSum(l []string) bool { return impl.SumEnd(l, 0) == int64(len(l)) }

func wholeDeed(l []string) bool { return impl.DeedEnd(l, 0) == int64(len(l)) }

func TestSumsThatAreSo(t *testing.T) {
	pages := []string{
		"0", "5", "-5", "999999999", "-999999999", "''", "'a'", "'a b'", "'none'", "'let'", "none", "a", "x1", "abcdefgh", "lets",
		"(+ 1 2)", "(- a b)", "(* (+ 1 2) none)", "(< 'a' 'b')", "(= none none)", "(& (& 1 2) (& 3 4))",
		"(fn ())", "(fn () (leave))", "(fn (a))", "(fn (a b))", "(fn ((a 1)))", "(fn (a (b 2) c))", "(fn ((a (fn ((b 1))))))", "(fn (a a))",
		"(fn () (let a 1))", "(fn () (take (a) 1))", "(fn () (hidden a))", "(fn () (vars a) (back a))", "(fn (a) (say a) (say a) (back a))",
		"(call f)", "(call f 1)", "(call f 1 2 3)", "(call 5)", "(call (fn ()) (call f))",
		"(thing)", "(thing 1)", "(thing 1 (thing) 'a')", "(get a 1)", "(join)", "(join 1)", "(join 'a' (join) b 'c')",
		"(table)", "(tget a b)", "(tget (table) (thing))", "(hget a b)", "(hget a (thing))",
	}
	for _, form := range sumForms() {
		pages = append(pages, filled(form))
	}
	for _, page := range pages {
		l := signsOf(t, page)
		if !wholeSum(l) {
			t.Errorf("SumEnd(%s) = %d of %d", page, impl.SumEnd(l, 0), len(l))
		}
		if got := impl.DeedEnd(l, 0); got != -1 {
			t.Errorf("DeedEnd(%s) = %d: a sum is no deed", page, got)
		}
		if impl.PlayOk(l) || impl.Count(l, "a") != -1 {
			t.Errorf("%s is no play", page)
		}
	}
}

func TestSumsThatAreNot(t *testing.T) {
	for _, page := range []string{
		"", "(", ")", "( )", "+", "&", "(+", "(a)", "(a 1)", "(5)", "('a')", "(none)", "((+ 1 2))",
		"(+)", "(+ 1)", "(+ 1 2 3)", "(+ 1 2", "(+ 1 (leave))", "(+ + 1)", "(+ 1 ())", "(+ let 1)", "(= 1)", "(& 1 2 3)",
		"(fn)", "(fn a)", "(fn none)", "(fn 5)", "(fn (leave))", "(fn a (leave))", "(fn (none))", "(fn (let))", "(fn (5))", "(fn ('a'))", "(fn (()))", "(fn ((a)))", "(fn ((a 1 2)))", "(fn ((none 1)))", "(fn ((let 1)))", "(fn ((5 1)))", "(fn (((a 1))))", "(fn ((a (leave))))", "(fn ((a b) (c)))",
		"(fn () 5)", "(fn () a)", "(fn () (+ 1 2))", "(fn () ())", "(fn () (leave)", "(fn () (let none 1))", "(fn () (if 1 (let a 1) (do)))", "(fn () (a))",
		"(call)", "(call let)", "(call f (leave))", "(call ())", "(call f ())", "(call +)",
		"(thing (leave))", "(thing let)", "(get a)", "(get)", "(get a 1 2)", "(get a (do))", "(join (leave))", "(join +)",
		"(table 1)", "(table a)", "(tget a)", "(tget)", "(tget a b c)", "(hget a)", "(hget)", "(hget a b c)", "(hget 5 a)", "(hget none a)", "(hget hget a)", "(hget (a) b)", "(hget (table) b)", "(hget 'a' b)",
		"let", "fn", "tput", "do",
	} {
		l := signsOf(t, page)
		if got := impl.SumEnd(l, 0); got != -1 {
			t.Errorf("SumEnd(%s) = %d", page, got)
		}
	}
}

func TestDeedsThatAreSo(t *testing.T) {
	pages := []string{
		"(let a 1)", "(let a a)", "(let a (fn (a) (let a a)))", "(take (a) b)", "(take (a b c) (thing 1 2 3))", "(take (a a) 5)",
		"(hidden)", "(hidden a)", "(hidden a b a)", "(vars)", "(vars a)", "(vars a b a)", "(set a 1)", "(set a none)",
		"(do)", "(do (do))", "(do (let a 1) (take (b) a) (hidden c) (vars d))", "(do (leave) (vars a))",
		"(if 1 (do) (do))", "(if 'a' (leave) (next))", "(if 1 (do (let a 1)) (do (hidden b)))", "(if (fn () (let a 1)) (say 1) (if 1 (do) (do)))",
		"(while 1 (do))", "(while a (leave))", "(while a (while b (do (vars c))))", "(for i 0 3 (say i))", "(for i a b (do (let c i)))", "(for i 0 1 (for i 0 1 (do)))",
		"(say 1)", "(say none)", "(back 'a')", "(leave)", "(next)", "(put a 1 2)", "(put a 'k' (join))", "(run 5)", "(run (call f))",
		"(hput a b c)", "(tput a b c)", "(tput (table) (thing) none)",
	}
	for _, form := range deedForms() {
		pages = append(pages, filled(form))
	}
	for _, page := range pages {
		l := signsOf(t, page)
		if !wholeDeed(l) {
			t.Errorf("DeedEnd(%s) = %d of %d", page, impl.DeedEnd(l, 0), len(l))
		}
		if got := impl.SumEnd(l, 0); got != -1 {
			t.Errorf("SumEnd(%s) = %d: a deed is no sum", page, got)
		}
		if !impl.PlayOk(l) {
			t.Errorf("%s is a play", page)
		}
	}
}

func TestDeedsThatAreNot(t *testing.T) {
	for _, page := range []string{
		"(", ")", "( )", "a", "5", "'a'", "none", "let", "(let", "(a)", "(a 1)", "(none)", "(5)", "((leave))", "((let a 1))",
		"(let)", "(let a)", "(let a 1 2)", "(let none 1)", "(let let 1)", "(let tput 1)", "(let 5 1)", "(let 'a' 1)", "(let (a) 1)", "(let + 1)", "(let a (leave))", "(let a ())", "(let a 1",
		"(take () 1)", "(take a 1)", "(take (a))", "(take (a) 1 2)", "(take)", "(take (none) 1)", "(take (a set) 1)", "(take (a 5) 1)", "(take ((a)) 1)", "(take ((a 1)) 1)", "(take (a) (do))",
		"(hidden none)", "(hidden a 5)", "(hidden (a))", "(hidden a let)", "(hidden 'a')", "(vars none)", "(vars 5)", "(vars (a))", "(vars a vars)", "(vars (a b))",
		"(set a)", "(set)", "(set a 1 2)", "(set 5 1)", "(set none 1)", "(set do 1)", "(set (get a 1) 1)", "(set a (do))",
		"(do 1)", "(do a)", "(do (+ 1 2))", "(do ())", "(do (do)", "(do (a))",
		"(if 1 (do))", "(if 1)", "(if)", "(if 1 (do) (do) (do))", "(if (do) (do) (do))", "(if 1 2 (do))", "(if 1 (do) 2)", "(if 1 (do) ())",
		"(if 1 (let a 1) (do))", "(if 1 (do) (let a 1))", "(if 1 (take (a) 1) (do))", "(if 1 (do) (take (a) 1))", "(if 1 (hidden a) (do))", "(if 1 (do) (hidden))", "(if 1 (vars a) (do))", "(if 1 (do) (vars))",
		"(if 1 (if 1 (let a 1) (do)) (do))", "(do (if 1 (let a 1) (do)))", "(while 1 (if 1 (do) (vars)))", "(say (fn () (while 1 (let a 1))))",
		"(while 1)", "(while)", "(while (do) (do))", "(while 1 2)", "(while 1 (do) (do))", "(while 1 (let a 1))", "(while 1 (take (a) 1))", "(while 1 (hidden a))", "(while 1 (vars a))",
		"(for i 0 (say i))", "(for i 0 3)", "(for i)", "(for)", "(for 0 3 (do))", "(for 5 0 3 (do))", "(for none 0 3 (do))", "(for for 0 3 (do))", "(for (i) 0 3 (do))", "(for i 0 3 (do) (do))", "(for i 0 3 4)", "(for i 0 3 4 (do))", "(for i (do) 3 (do))", "(for i 0 (do) (do))", "(for i 0 3 (let a 1))", "(for i 0 3 (take (a) 1))", "(for i 0 3 (hidden a))", "(for i 0 3 (vars a))",
		"(say)", "(say 1 2)", "(say (do))", "(say (say 1))", "(say say)", "(say ())", "(back)", "(back 1 2)", "(back (leave))", "(leave 1)", "(leave a)", "(leave (leave))", "(next 1)", "(next (do))",
		"(put)", "(put a)", "(put a 1)", "(put a 1 2 3)", "(put a 1 (do))", "(put (do) 1 2)", "(run)", "(run 1 2)", "(run (do))",
		"(hput a b)", "(hput a)", "(hput)", "(hput a b c d)", "(hput 5 b c)", "(hput none b c)", "(hput (table) b c)", "(hput hput b c)", "(tput a b)", "(tput a)", "(tput)", "(tput a b c d)", "(tput a b (do))", "(tput let b c)",
		"(fn ())", "(call f)", "(thing)", "(table)", "(join)", "(+ 1 2)", "(hget a b)",
	} {
		l := signsOf(t, page)
		if got := impl.DeedEnd(l, 0); got != -1 {
			t.Errorf("DeedEnd(%s) = %d", page, got)
		}
		for _, play := range [][]string{l, slices.Concat(l, []string{"(", "do", ")"}), slices.Concat([]string{"(", "do", ")"}, l), slices.Concat([]string{"(", "do"}, l, []string{")"})} {
			if playSlowly(play) {
				t.Fatalf("%s: the test itself is wrong", shortList(play))
			}
			if impl.PlayOk(play) || impl.Count(play, "do") != -1 {
				t.Errorf("%s is no play", shortList(play))
			}
		}
	}
}

// let, take, hidden and vars stand in a play, a do and a fn alone; all other
// deeds stand wherever a DEED may.
func TestWhereEachDeedMayStand(t *testing.T) {
	blocks := []string{"DEED", "(do DEED)", "(do (leave) DEED (leave))", "(run (fn () DEED))", "(if 1 (do DEED) (do DEED))", "(while 1 (do DEED))", "(for i 0 1 (do DEED))", "(if (fn () DEED) (do) (do))"}
	ruled := []string{"(if 1 DEED (do))", "(if 1 (do) DEED)", "(while 1 DEED)", "(for i 0 1 DEED)", "(while 1 (while 1 DEED))", "(do (if 1 DEED DEED))", "(run (fn () (for i 0 1 DEED)))"}
	check := func(form string, around []string, want bool) {
		for _, page := range around {
			l := signsOf(t, strings.ReplaceAll(page, "DEED", filled(form)))
			if got := impl.PlayOk(l); got != want {
				t.Errorf("PlayOk of %s in %s is %v", form, page, got)
			}
			if got := wholeDeed(l); got != want {
				t.Errorf("DeedEnd of %s in %s is %d", form, page, impl.DeedEnd(l, 0))
			}
		}
	}
	for _, form := range deedForms() {
		check(form, blocks, true)
		check(form, ruled, !slices.Contains(declaringForms(), form))
	}
	for _, form := range sumForms() {
		check(form, blocks, false)
		check(form, ruled, false)
	}
}

// Wherever a NAME stands, a word of the forms may not, nor what is no name.
func TestNamesInAllTheirPlaces(t *testing.T) {
	places := []string{
		"(let NAME 1)", "(take (NAME) 1)", "(take (a NAME) 1)", "(hidden NAME)", "(hidden a NAME)", "(vars NAME)", "(vars a NAME)", "(set NAME 1)",
		"(for NAME 0 1 (do))", "(hput NAME 1 2)", "(say (hget NAME 1))", "(say (fn (NAME)))", "(say (fn (a NAME)))", "(say (fn ((NAME 1))))",
	}
	for _, page := range places {
		check := func(name string, want bool) {
			l := wordsOf(page)
			l[slices.Index(l, "NAME")] = name
			if got := impl.PlayOk(l); got != want {
				t.Errorf("PlayOk(%q) is %v", l, got)
			}
			if got := impl.DeedEnd(l, 0) >= 0; got != want {
				t.Errorf("DeedEnd(%q) is %d", l, impl.DeedEnd(l, 0))
			}
		}
		for _, name := range []string{"a", "x", "v12", "abcdefgh", "nones", "lets", "sum", "name"} {
			check(name, true)
		}
		for _, name := range slices.Concat(reservedWords(), marks(), []string{"0", "5", "-5", "''", "'a'"}, wrongSigns()) {
			check(name, false)
		}
	}
}

// A NAME is a sum, a word of the forms is none, but for none.
func TestSignsAloneAsSums(t *testing.T) {
	check := func(l []string, at int64, got int64, want int64) {
		t.Helper()
		if got != want {
			t.Errorf("%q at %d: ends at %d; want %d", l, at, got, want)
		}
	}
	for _, s := range slices.Concat(rightSigns(), wrongSigns(), reservedWords(), []string{"x", "lets"}) {
		alone, within, said := []string{s}, []string{"(", "+", "1", s, ")"}, []string{"(", "say", s, ")"}
		check(alone, 0, impl.DeedEnd(alone, 0), -1)
		if isSum(tree{sign: s}) {
			check(alone, 0, impl.SumEnd(alone, 0), 1)
			check(within, 3, impl.SumEnd(within, 3), 4)
			check(within, 0, impl.SumEnd(within, 0), 5)
			check(said, 0, impl.DeedEnd(said, 0), 4)
		} else {
			check(alone, 0, impl.SumEnd(alone, 0), -1)
			check(within, 3, impl.SumEnd(within, 3), -1)
			check(within, 0, impl.SumEnd(within, 0), -1)
			check(said, 0, impl.DeedEnd(said, 0), -1)
		}
	}
}

func checkForms(t *testing.T, l []string) {
	t.Helper()
	for at := int64(-1); at <= int64(len(l)); at++ {
		if got, want := impl.SumEnd(l, at), sumSlowly(l, at); got != want {
			t.Errorf("SumEnd(%s, %d) = %d; want %d", shortList(l), at, got, want)
		}
		if got, want := impl.DeedEnd(l, at), deedSlowly(l, at); got != want {
			t.Errorf("DeedEnd(%s, %d) = %d; want %d", shortList(l), at, got, want)
		}
	}
	if got, want := impl.PlayOk(l), playSlowly(l); got != want {
		t.Errorf("PlayOk(%s) is %v", shortList(l), got)
	}
	for _, head := range []string{"do", "fn", "a", "nowhere"} {
		if got, want := impl.Count(l, head), countSlowly(l, head); got != want {
			t.Errorf("Count(%s, %q) = %d; want %d", shortList(l), head, got, want)
		}
	}
}

func playPages() []string {
	out := []string{
		"", "(leave)", "(let a 1) (say a)", "(say (fn (x (y 2)) (back x)))", "(for i 0 3 (say i))", "(if 1 (do) (leave))", "(hidden) (hput p a 1)",
		"(vars a b) (run (call f 1))", "(put a 'k' (join))", "(tput a b (table))", "(take (a b) (thing 1 2))",
		"(let f (fn (a (b 5)) (let c (+ a b)) (back (fn () (back c))))) (say (call (call f 1)))",
		"(hidden p q) (let t (thing)) (hput p t (hget q t)) (while (< 1 2) (do (leave) (next)))",
		"(do (do (do (vars)))) (do) (run (fn ((x (fn ((y 1)) (let z y))))))",
	}
	for _, form := range sumForms() {
		out = append(out, "(run "+filled(form)+")")
	}
	for _, form := range deedForms() {
		out = append(out, filled(form))
	}
	return out
}

func TestFormsAtEveryPlaceOfPlays(t *testing.T) {
	for _, page := range playPages() {
		l := signsOf(t, page)
		if !impl.PlayOk(l) {
			t.Errorf("%s is a play", page)
		}
		checkForms(t, l)
	}
}

// One sign less, one more, or another one, at each place of each play.
func TestFormsOfPlaysWithOneSignWrong(t *testing.T) {
	others := []string{"(", ")", "a", "7", "''", "none", "+", "A", "fn", "table", "let", "vars", "do", "leave", "say", "take", "if"}
	for _, page := range playPages() {
		l := signsOf(t, page)
		for at := range len(l) + 1 {
			for _, other := range others {
				checkForms(t, slices.Insert(slices.Clone(l), at, other))
			}
			if at == len(l) {
				continue
			}
			checkForms(t, slices.Delete(slices.Clone(l), at, at+1))
			for _, other := range others {
				changed := slices.Clone(l)
				changed[at] = other
				checkForms(t, changed)
			}
		}
		if t.Failed() {
			return
		}
	}
}

func TestFormsOfAllShortLists(t *testing.T) {
	lists := [][]string{nil}
	for range 6 {
		var longer [][]string
		for _, l := range lists {
			for _, sign := range []string{"(", ")", "a", "let", "do", "fn"} {
				longer = append(longer, append(slices.Clone(l), sign))
			}
		}
		for _, l := range longer {
			if got, want := impl.SumEnd(l, 0), sumSlowly(l, 0); got != want {
				t.Errorf("SumEnd(%q) = %d; want %d", l, got, want)
			}
			if got, want := impl.DeedEnd(l, 0), deedSlowly(l, 0); got != want {
				t.Errorf("DeedEnd(%q) = %d; want %d", l, got, want)
			}
			if got, want := impl.PlayOk(l), playSlowly(l); got != want {
				t.Errorf("PlayOk(%q) is %v", l, got)
			}
		}
		if t.Failed() {
			return
		}
		lists = longer
	}
}

func TestFormAnswers(t *testing.T) {
	l := signsOf(t, "(say (+ 1 2)) (if a (say 3) (do (let b (call f)))) x (leave")
	cases := []struct{ at, sum, deed int64 }{
		{0, -1, 8}, {1, -1, -1}, {2, 7, -1}, {3, -1, -1}, {4, 5, -1}, {5, 6, -1}, {6, -1, -1}, {7, -1, -1},
		{8, -1, 27}, {10, 11, -1}, {11, -1, 15}, {15, -1, 26}, {17, -1, 25}, {19, 20, -1}, {20, 24, -1}, {22, 23, -1},
		{27, 28, -1}, {28, -1, -1}, {29, -1, -1}, {30, -1, -1}, {31, -1, -1}, {-1, -1, -1}, {math.MinInt64, -1, -1}, {math.MaxInt64, -1, -1},
	}
	for _, c := range cases {
		if sum, deed := impl.SumEnd(l, c.at), impl.DeedEnd(l, c.at); sum != c.sum || deed != c.deed {
			t.Errorf("at %d: %d, %d; want %d, %d", c.at, sum, deed, c.sum, c.deed)
		}
	}
	// A let that an if rules is a deed as it may stand in a play, where it begins.
	ruled := signsOf(t, "(if 1 (let a 1) (do))")
	if own, whole := impl.DeedEnd(ruled, 3), impl.DeedEnd(ruled, 0); own != 8 || whole != -1 {
		t.Errorf("%d, %d", own, whole)
	}
}

func TestFormsOfNothing(t *testing.T) {
	for _, l := range [][]string{nil, {}} {
		for _, at := range placesOf(nil) {
			if sum, deed := impl.SumEnd(l, at), impl.DeedEnd(l, at); sum != -1 || deed != -1 {
				t.Errorf("at %d: %d, %d", at, sum, deed)
			}
		}
		if !impl.PlayOk(l) {
			t.Error("the empty play is one")
		}
		for _, head := range []string{"", "do", "(", ")", "A"} {
			if got := impl.Count(l, head); got != 0 {
				t.Errorf("Count(nothing, %q) = %d", head, got)
			}
		}
	}
}

func TestWhatIsNoSignBesideAForm(t *testing.T) {
	for _, bad := range wrongSigns() {
		l := []string{bad, "(", "say", "a", ")", bad}
		if end, sum := impl.DeedEnd(l, 1), impl.SumEnd(l, 3); end != 5 || sum != 4 {
			t.Errorf("%q: %d, %d", l, end, sum)
		}
		for _, at := range []int64{0, 5} {
			if end, sum := impl.DeedEnd(l, at), impl.SumEnd(l, at); end != -1 || sum != -1 {
				t.Errorf("%q at %d: %d, %d", l, at, end, sum)
			}
		}
		for _, list := range [][]string{l, l[:5], l[1:], {bad}, {"(", bad, ")"}, {"(", "do", bad, ")"}, {"(", "say", bad, ")"}, {"(", bad, "a", ")"}, {"(", "do", ")", bad}} {
			if impl.PlayOk(list) || impl.Count(list, "say") != -1 {
				t.Errorf("%q is no play", list)
			}
		}
	}
}

func TestCount(t *testing.T) {
	l := signsOf(t, "(say (+ 1 2)) (say 3) (run (fn (a (say1 (fn ())) b) (say (+ a (+ a 'say'))) (take (a c) a)))")
	for head, want := range map[string]int64{
		"say": 3, "+": 3, "run": 1, "fn": 2, "take": 1, "a": 2, "say1": 1, "let": 0, "-": 0, "none": 0, "1": 0, "b": 0, "c": 0, "'say'": 0,
		"": 0, "A": 0, "( say": 0, "say ": 0, "(say": 0, ")": 1, "(": 0,
	} {
		if got := impl.Count(l, head); got != want {
			t.Errorf("Count of %q is %d; want %d", head, got, want)
		}
	}
	// The first PARAM stands right behind a (, whether it is a NAME or (NAME SUM).
	if got := impl.Count(signsOf(t, "(run (fn ((a 1))))"), "("); got != 1 {
		t.Errorf("%d", got)
	}
	for _, page := range []string{"say", "(say", "(say 1", "(say 1))", "(say)", "(+ 1 2)", "(say 1) x", "x (say 1)", "(say 1) (call f)"} {
		for _, head := range []string{"say", "", "nowhere", "("} {
			if got := impl.Count(signsOf(t, page), head); got != -1 {
				t.Errorf("Count(%s, %q) = %d", page, head, got)
			}
		}
	}
}

func TestPlaysOfMaxSigns(t *testing.T) {
	one := func(n int) []string {
		return slices.Concat([]string{"(", "vars"}, slices.Repeat([]string{"a"}, n-3), []string{")"})
	}
	many := func(n int) []string {
		l := slices.Repeat([]string{"(", "leave", ")"}, n/3-1)
		return append(l, one(n-len(l))...)
	}
	for _, n := range []int{impl.MaxSigns - 1, impl.MaxSigns, impl.MaxSigns + 1, impl.MaxSigns + 2, 2 * impl.MaxSigns} {
		for _, l := range [][]string{one(n), many(n)} {
			if len(l) != n {
				t.Fatalf("%d signs, not %d", len(l), n)
			}
			is := n <= impl.MaxSigns
			if got := impl.PlayOk(l); got != is {
				t.Errorf("PlayOk of %d signs is %v", n, got)
			}
			if got := impl.Count(l, "vars"); is && got != 1 || !is && got != -1 {
				t.Errorf("Count of %d signs is %d", n, got)
			}
		}
		// A deed alone has no such limit.
		if got := impl.DeedEnd(one(n), 0); got != int64(n) {
			t.Errorf("a deed of %d signs ends at %d", n, got)
		}
	}
}

// within is what stands inside with n times ahead and behind around it.
func within(n int, ahead string, inside string, behind string) []string {
	return slices.Concat(slices.Repeat(strings.Fields(ahead), n), strings.Fields(inside), slices.Repeat(strings.Fields(behind), n))
}

func TestPlaysOfMaxDepth(t *testing.T) {
	for _, n := range []int{1, 2, impl.MaxDepth - 1, impl.MaxDepth, impl.MaxDepth + 1, impl.MaxDepth + 2, 2 * impl.MaxDepth} {
		plays := [][]string{
			within(n, "( do", "", ")"),
			within(n-1, "( do", "( leave )", ")"),
			within(n-1, "( while 1", "( next )", ")"),
			slices.Concat([]string{"(", "say"}, within(n-1, "( + 1", "2", ")"), []string{")"}),
		}
		for _, l := range plays {
			if depth := impl.DepthOf(l, 0); depth != int64(n) {
				t.Fatalf("%s is %d deep, not %d", shortList(l), depth, n)
			}
			is := n <= impl.MaxDepth
			leaves := slices.Repeat([]string{"(", "leave", ")"}, 3)
			for _, play := range [][]string{l, slices.Concat(leaves, l), slices.Concat(l, leaves), slices.Concat(leaves, l, leaves), slices.Concat(l, l)} {
				if got := impl.PlayOk(play); got != is {
					t.Errorf("PlayOk of %s, %d deep, is %v", shortList(play), n, got)
				}
				if got := impl.Count(play, "nowhere"); is && got != 0 || !is && got != -1 {
					t.Errorf("Count of %s, %d deep, is %d", shortList(play), n, got)
				}
			}
			// A deed alone has no such limit.
			if got := impl.DeedEnd(l, 0); got != int64(len(l)) {
				t.Errorf("%s, %d deep, ends at %d", shortList(l), n, got)
			}
		}
	}
}

// Promise 4.
func TestTwoPlaysSideBySideAreOne(t *testing.T) {
	var plays [][]string
	for _, page := range playPages() {
		plays = append(plays, signsOf(t, page))
	}
	plays = append(plays, within(impl.MaxDepth, "( do", "", ")"), slices.Repeat([]string{"(", "say", "1", ")"}, impl.MaxSigns/4-1), slices.Repeat([]string{"(", "leave", ")"}, impl.MaxSigns/3))
	for _, a := range plays {
		for _, b := range plays {
			both := slices.Concat(a, b)
			fits := len(both) <= impl.MaxSigns
			if !impl.PlayOk(a) || !impl.PlayOk(b) || impl.PlayOk(both) != fits {
				t.Errorf("%s and %s, %d signs: %v", shortList(a), shortList(b), len(both), impl.PlayOk(both))
			}
			for _, head := range []string{"do", "say", "fn"} {
				if got, want := impl.Count(both, head), impl.Count(a, head)+impl.Count(b, head); fits && got != want || !fits && got != -1 {
					t.Errorf("%s and %s have %d %s; want %d", shortList(a), shortList(b), got, head, want)
				}
			}
		}
	}
}

// What is no play makes none, on whichever side a play stands.
func TestAPlayBesideWhatIsNoneIsNone(t *testing.T) {
	play := signsOf(t, "(say 1) (do (let a 1))")
	for _, page := range []string{"a", "(", ")", "()", "(say", "(say)", "(call f)", "(if 1 (let a 1) (do))", "(leave) 5"} {
		l := signsOf(t, page)
		for _, both := range [][]string{slices.Concat(play, l), slices.Concat(l, play), slices.Concat(play, l, play)} {
			if impl.PlayOk(both) {
				t.Errorf("%s is no play", shortList(both))
			}
		}
	}
}

func TestEachDeedOfAPlayIsOne(t *testing.T) {
	for _, page := range playPages() {
		l := signsOf(t, page)
		for at := int64(0); at < int64(len(l)); {
			end := impl.DeedEnd(l, at)
			if end <= at || !impl.PlayOk(l[at:end]) || !impl.PlayOk(l[end:]) || !impl.PlayOk(l[:at]) {
				t.Fatalf("%s from %d to %d", page, at, end)
			}
			if item := impl.ItemEnd(l, at); item != end {
				t.Errorf("%s at %d: a deed up to %d, an item up to %d", page, at, end, item)
			}
			at = end
		}
	}
}

// Promise 21, for the functions of chapter 4, from here on.
func TestFormsOneWithinTheOther(t *testing.T) {
	for _, n := range []int{impl.MaxSigns, 100000} {
		for _, c := range []struct {
			ahead, inside, behind string
			isSum                 bool
		}{
			{"( do", "", ")", false},
			{"( do ( leave )", "", "( next ) )", false},
			{"( while 1", "( leave )", ")", false},
			{"( if 1", "( leave )", "( do ) )", false},
			{"( for i 0 1", "( leave )", ")", false},
			{"( say ( fn ( a )", "( let b 1 )", ") )", false},
			{"( let a ( fn ( ( a ( call ( fn ( )", "( let b 1 )", ") ) ) ) ) )", false},
			{"( + 1", "2", ")", true},
			{"( call", "f", "1 )", true},
			{"( thing 1", "", ")", true},
			{"( fn ( ( a", "5", ") ) )", true},
			{"( fn ( ) ( back", "5", ") )", true},
		} {
			l := within(n, c.ahead, c.inside, c.behind)
			sum, deed := int64(-1), int64(len(l))
			if c.isSum {
				sum, deed = deed, sum
			}
			if got := impl.SumEnd(l, 0); got != sum {
				t.Errorf("%d times %s: the sum ends at %d; want %d", n, c.ahead, got, sum)
			}
			if got := impl.DeedEnd(l, 0); got != deed {
				t.Errorf("%d times %s: the deed ends at %d; want %d", n, c.ahead, got, deed)
			}
			checkNoForm(t, l[:len(l)-1])
			checkNoForm(t, l[:n])
			checkNoForm(t, append(l[:len(l)-1:len(l)-1], "A"))
			if impl.PlayOk(l) || impl.Count(l, "do") != -1 {
				t.Errorf("%d times %s is no play", n, c.ahead)
			}
		}
	}
}

func checkNoForm(t *testing.T, l []string) {
	t.Helper()
	if sum, deed := impl.SumEnd(l, 0), impl.DeedEnd(l, 0); sum != -1 || deed != -1 {
		t.Errorf("%s: %d, %d", shortList(l), sum, deed)
	}
	if impl.PlayOk(l) || impl.Count(l, "do") != -1 {
		t.Errorf("%s is no play", shortList(l))
	}
}

func TestManyParensAreNoForm(t *testing.T) {
	for _, n := range []int{2, impl.MaxDepth, impl.MaxSigns, 300000} {
		for _, head := range []string{"", "a", "do", "fn", "say", "none", "+", "A"} {
			checkNoForm(t, within(n, "(", head, ")"))
			checkNoForm(t, within(n, "(", head, ""))
			checkNoForm(t, within(n, "( "+head, "", ""))
			checkNoForm(t, within(n, ")", head, "("))
			checkNoForm(t, within(n, "( ( "+head, "", ") )"))
		}
	}
}

func TestFormsLeaveWhatIsGiven(t *testing.T) {
	lists := itemLists(t)
	for _, page := range playPages() {
		lists = append(lists, signsOf(t, page))
	}
	for _, given := range lists {
		l, room := roomy(given)
		was := slices.Clone(room)
		for _, at := range placesOf(l) {
			impl.SumEnd(l, at)
			impl.DeedEnd(l, at)
		}
		impl.PlayOk(l)
		for _, head := range []string{"do", "(", "", "A"} {
			impl.Count(l, head)
		}
		if !slices.Equal(room, was) {
			t.Fatalf("%q became %q", was, room)
		}
	}
}

// What stands in the spare room behind a list is no part of it.
func TestFormsDoNotReadTheSpareRoom(t *testing.T) {
	whole := signsOf(t, "(say (+ 1 2))")
	for n := 1; n < len(whole); n++ {
		checkNoForm(t, whole[:n])
		if got := impl.SumEnd(whole[:n], 2); n < 7 && got != -1 {
			t.Errorf("%q: the sum ends at %d", whole[:n], got)
		}
	}
}

// The line "form" of the document's chapter Ways.
func TestFormsAreFunctionFieldsOfATable(t *testing.T) {
	if !hasFunctionField(t, "../impl/l04_form.go") {
		t.Error("no function in a struct's field in the layer of the forms")
	}
}
