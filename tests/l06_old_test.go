package tests

import (
	"go/ast"
	"go/token"
	"slices"
	"strings"
	"testing"

	"loop.example/g00544/impl"
)

func oldOf(l []string) oldAnswers {
	return oldAnswers{impl.NewIn(l), impl.OldOk(l), impl.VarsOf(l)}
}

func sameOld(a oldAnswers, b oldAnswers) bool {
	return slices.Equal(a.new, b.new) && a.old == b.old && slices.Equal(a.vars, b.vars)
}

func checkOld(t *testing.T, l []string) {
	t.Helper()
	if got, want := oldOf(l), oldSlowly(l); !sameOld(got, want) {
		t.Errorf("%s: %v; want %v", shortList(l), got, want)
	}
}

// checkNew checks a page that is Scoped.
func checkNew(t *testing.T, page string, want ...string) {
	t.Helper()
	l := signsOf(t, page)
	if !scopeSlowly(l).scoped {
		t.Errorf("%s: the test itself is wrong: not Scoped", page)
	}
	if got := impl.NewIn(l); !slices.Equal(got, want) {
		t.Errorf("%s: %q; want %q", page, got, want)
	}
	if got := impl.OldOk(l); got != (len(want) == 0) {
		t.Errorf("OldOk(%s) is %v", page, got)
	}
}

func TestNewIn(t *testing.T) {
	for _, c := range []namesCase{
		// Each alone.
		{"(run (fn ((a 1))))", "given"}, {"(say (join))", "join"}, {"(say (join 1 'b' none))", "join"}, {"(hidden)", "hidden"}, {"(hidden p q)", "hidden"},
		{"(hidden p) (run (hget p 1))", "hidden hget"}, {"(hidden p) (hput p 1 2)", "hidden hput"}, {"(hidden p) (hput p 1 (hget p 1))", "hidden hget hput"}, {"(run (hget p 1)) (hidden p)", "hidden hget"},
		{"(take (a) 1)", "take"}, {"(take (a b c) (thing 1 2 3))", "take"}, {"(for i 0 3 (say i))", "for"}, {"(let a 1)", "let"}, {"(let a a)", "let"},
		// All of them, in this order and in another.
		{"(run (fn ((g 1)))) (say (join)) (hidden p) (run (hget p 1)) (hput p 1 2) (take (t) 1) (for i 0 1 (do)) (let a 1)", newOrder},
		{"(let a 1) (for i 0 1 (do)) (take (t) 1) (hput p 1 2) (run (hget p 1)) (hidden p) (say (join)) (run (fn ((g 1))))", newOrder},
		{"(for i 0 1 (do (let a (fn ((b (join i))) (take (c d) b) (hput p c (hget p d)))) (hidden p)))", newOrder},
		{"(let f (fn ((x 1)) (back (join x)))) (for i 0 2 (say (call f)))", "given join for let"},
		{"(let a 1) (take (b) 1)", "take let"}, {"(for i 0 1 (do)) (hidden p)", "hidden for"}, {"(let a (join))", "join let"}, {"(let a (fn ((b 1))))", "given let"}, {"(take (a) (fn () (hidden p) (for i 0 1 (hput p i (join)))))", "join hidden hput take for"},
	} {
		checkNew(t, c.page, strings.Fields(c.want)...)
	}
}

// Whichever of the eight there are, in either order, once, and twice and more.
func TestNewInOfEachOfTheirSets(t *testing.T) {
	deeds, scoped := newDeeds(), 0
	for set := range 1 << len(deeds) {
		var pages, want []string
		for n, deed := range deeds {
			if set>>n&1 == 1 {
				pages, want = append(pages, deed.page), append(want, deed.word)
			}
		}
		once := strings.Join(pages, " ")
		slices.Reverse(pages)
		back := strings.Join(pages, " ")
		unknown := !slices.Contains(want, "hidden") && (slices.Contains(want, "hget") || slices.Contains(want, "hput"))
		for _, page := range []string{once, back, once + " (do " + back + ")", "(do " + back + " (do " + once + ")) " + once + " (do " + once + ")"} {
			if unknown {
				if got := oldOf(signsOf(t, page)); len(got.new) > 0 || got.old {
					t.Errorf("%s: %v, and is not Scoped", page, got)
				}
				continue
			}
			scoped++
			checkNew(t, page, want...)
		}
	}
	if scoped != 4*160 {
		t.Errorf("%d were Scoped", scoped)
	}
}

// Each of them within whatever stands within whatever.
func TestNewInDeepWithin(t *testing.T) {
	for _, outer := range arounds() {
		for _, inner := range arounds() {
			for _, deed := range newDeeds() {
				page, words := deed.alone()
				want := inOrderOfTelling(outer.adds, inner.adds, words)
				checkNew(t, outer.with(inner.with(page)), want...)
				checkNew(t, "(vars v) "+outer.with(inner.with(page)), want...)
			}
			checkNew(t, outer.with(inner.with("(do)")), inOrderOfTelling(outer.adds, inner.adds)...)
		}
	}
}

// A form may be alone around another one, with no do between.
func TestNewInRightWithin(t *testing.T) {
	for _, c := range []namesCase{
		{"(if 1 (for i 0 1 (do)) (do))", "for"}, {"(if 1 (do) (for i 0 1 (do)))", "for"}, {"(while 1 (for i 0 1 (leave)))", "for"}, {"(for i 0 1 (for j 0 1 (say j)))", "for"}, {"(while (join) (do))", "join"},
		{"(say (+ 1 (+ (join) 2)))", "join"}, {"(say (join (join (join))))", "join"}, {"(run (call (fn ((a 1))) 1))", "given"}, {"(run (thing (thing (fn ((a 1))))))", "given"}, {"(hput p (hget p (hget p 1)) 2) (hidden p)", "hidden hget hput"},
		{"(run (fn () (hput p 1 2))) (hidden p)", "hidden hput"}, {"(run (fn () (for i 0 1 (do))))", "for"}, {"(run (fn () (let a 1)))", "let"}, {"(run (fn () (take (a) 1)))", "take"}, {"(run (fn () (hidden p)))", "hidden"},
		{"(if (join) (say (join)) (back (join)))", "join"}, {"(tput (join) (get 1 (join)) (tget 1 (join)))", "join"}, {"(run (fn ((a (join)))))", "given join"},
	} {
		checkNew(t, c.page, strings.Fields(c.want)...)
	}
}

func TestNewInAsksForEachParam(t *testing.T) {
	for _, deeds := range []string{"", "(say 1)", "(say (call 1 (thing 2)))", "(do (if 1 (do) (do)))", "(run (fn (q) (back q)))"} {
		for _, params := range []string{"", "a", "a b", "a b c d", "given", "given a", "a given"} {
			checkNew(t, "(run (fn ("+params+") "+deeds+"))")
			checkNew(t, "(run (fn (z) (run (fn ("+params+") "+deeds+"))))")
		}
		for _, params := range []string{"(a 1)", "(a 1) b c", "a (b 1) c", "a b (c 1)", "(a 1) (b 2)", "(a 1) b (c 3)", "(given 1)", "(a (fn (b) (say b)))", "a (b a)", "(a (+ 1 2))", "a (b (thing)) c"} {
			checkNew(t, "(run (fn ("+params+") "+deeds+"))", "given")
			checkNew(t, "(run (fn (z) (run (fn ("+params+") "+deeds+"))))", "given")
			checkNew(t, "(run (fn () "+deeds+")) (run (fn ("+params+")))", "given")
			checkNew(t, "(run (fn ("+params+"))) (run (fn (a) "+deeds+"))", "given")
		}
	}
	// A fn that is given nothing, with one in it that is, and the other way round.
	checkNew(t, "(run (fn (a) (run (fn ((b 1))))))", "given")
	checkNew(t, "(run (fn ((a (fn (b)))) (run (fn (c)))))", "given")
	checkNew(t, "(run (fn ((a (fn ((b 1)))))))", "given")
	checkNew(t, "(run (call (fn (a) (back a)) (thing 1 2)))")
	checkNew(t, "(run (fn () (do (say 1))))")
}

// What looks like a new word and is a NAME or a text is none.
func TestNewInOfNamesAndTexts(t *testing.T) {
	for _, name := range []string{"given", "givens", "joins", "join1", "hid", "hiddens", "hgets", "hget0", "hputs", "takes", "took", "fors", "for1", "lets", "let0", "old", "new"} {
		checkNew(t, strings.ReplaceAll("(vars NAME) (set NAME (fn (NAME) (vars NAME) (set NAME 1) (back NAME))) (say (call NAME (thing NAME) NAME)) (while NAME (put NAME NAME NAME))", "NAME", name))
		checkNew(t, strings.ReplaceAll("(run (fn (NAME) (run NAME)))", "NAME", name))
		checkNew(t, strings.ReplaceAll("(take (NAME) 1)", "NAME", name), "take")
		checkNew(t, strings.ReplaceAll("(take (NAME a) NAME)", "NAME", name), "take")
		checkNew(t, strings.ReplaceAll("(let NAME NAME)", "NAME", name), "let")
		checkNew(t, strings.ReplaceAll("(for NAME 0 1 (run (fn (NAME) (say NAME))))", "NAME", name), "for")
		checkNew(t, strings.ReplaceAll("(hidden NAME) (hput NAME 1 2)", "NAME", name), "hidden", "hput")
		checkNew(t, strings.ReplaceAll("(run (fn ((NAME 1))))", "NAME", name), "given")
	}
	for _, word := range strings.Fields(newOrder) {
		checkNew(t, strings.ReplaceAll("(say 'WORD') (say (& ' WORD ' 'a WORD b')) (run (thing 'WORD' 'WORD WORD')) (if 'WORD' (do) (back (fn () (back 'WORD'))))", "WORD", word))
	}
}

func TestVarsOf(t *testing.T) {
	checkNames(t, impl.VarsOf, []namesCase{
		{"", ""}, {"(vars)", ""}, {"(vars a)", "a"}, {"(vars a b)", "a b"}, {"(vars c a b)", "c a b"}, {"(vars b10 b9 b ba abcdefgh given)", "b10 b9 b ba abcdefgh given"},
		{"(vars) (say 1)", ""}, {"(vars a) (set a 1)", "a"}, {"(vars a b) (set a (fn (x) (vars y) (set y x) (back y))) (say (call a 5))", "a b"}, {"(vars a) (do (let b 1))", "a"}, {"(vars a) (let b 1) (take (c) 1) (hidden d)", "a"},
		// No vars, or not as the first deed of the play.
		{"(do)", ""}, {"(say 1)", ""}, {"(let a 1)", ""}, {"(take (a b) 1)", ""}, {"(hidden a)", ""}, {"(set a 1)", ""}, {"(for a 0 1 (do))", ""}, {"(say 'vars')", ""},
		{"(do) (vars a)", ""}, {"(let b 1) (vars a)", ""}, {"(hidden) (vars a)", ""}, {"(do) (vars a) (vars b)", ""},
		{"(do (vars a))", ""}, {"(do (vars a) (set a 1)) (say 1)", ""}, {"(do (do (vars a)))", ""}, {"(run (fn () (vars a)))", ""}, {"(run (fn () (vars a) (back a))) (say 1)", ""}, {"(let f (fn () (vars a)))", ""}, {"(while 1 (do (vars a)))", ""},
		// Of what is not Scoped, too.
		{"(vars a a)", "a a"}, {"(vars a b a b b)", "a b a b b"}, {"(vars a) (vars b)", "a"}, {"(vars) (vars b)", ""}, {"(vars a) (let a 1)", "a"}, {"(vars a b) (say z)", "a b"}, {"(vars a) (leave)", "a"}, {"(vars a) (hput p 1 2)", "a"}, {"(vars a) (do (vars b))", "a"}, {"(vars a) (run (fn (x x)))", "a"}, {"(vars a) (hidden p p)", "a"},
	})
}

// Of each thing that Scoped asks for, that one alone broken.
func brokenPages() []string {
	return []string{
		"(say z)", "(set z 1)", "(do (set z 1))", "(run (fn () (back z)))",
		"(run (fn (x x)))", "(run (fn (x y x) (say x)))", "(run (fn () (vars x x)))", "(run (fn () (vars x y x) (set x 1)))",
		"(leave)", "(next)", "(do (leave))", "(while 1 (run (fn () (next))))",
		"(do) (vars x)", "(do (vars x))", "(run (fn () (do) (vars x)))", "(run (fn () (do (vars x))))", "(while 1 (do (vars x)))",
		// Those that cannot be broken without a new word.
		"(run (hget z 1))", "(hput z 1 2)", "(do (hidden z)) (hput z 1 2)",
		"(let x 1) (let x 2)", "(take (x y x) 1)", "(hidden z z)", "(hidden z) (do) (hidden z)",
		"(do (let x 1) (let x 2))", "(do (take (x x) 1))", "(do (let x 1) (take (x) 1))", "(run (fn () (vars x) (let x 1)))", "(do (hidden z z))", "(do (hidden z) (hidden z))",
		"(run (fn (x (x 1))))", "(run (fn ((x 1)) (vars y)))", "(for i i 1 (do))", "(for i 0 1 (run (fn () (leave))))", "(run (fn ((x z))))",
	}
}

func TestNothingIsNewInWhatIsNotScoped(t *testing.T) {
	check := func(page string) {
		l := signsOf(t, page)
		if !impl.PlayOk(l) || impl.Scoped(l) {
			t.Errorf("%s: the test itself is wrong", page)
		}
		if got := impl.NewIn(l); len(got) > 0 {
			t.Errorf("%s: %q", page, got)
		}
		if impl.OldOk(l) {
			t.Errorf("%s is not old", page)
		}
		checkOld(t, l)
	}
	for _, broken := range brokenPages() {
		check(broken)
		check("(say 1) " + broken)
		check("(vars v w) " + broken)
		for _, deed := range newDeeds() {
			page, _ := deed.alone()
			check(page + " " + broken)
			check(broken + " " + page)
			check("(do " + broken + " (do " + page + "))")
		}
	}
}

func TestOldOk(t *testing.T) {
	for _, page := range oldTongue() {
		checkNew(t, page)
	}
	for _, page := range []string{"(say q)", "(leave)", "(vars a a)", "(do) (vars a)", "(let a 1)", "(hidden)", "(say (join))", "(run (fn ((a 1))))", "(for i 0 1 (do))", "(take (a) 1)"} {
		if impl.OldOk(signsOf(t, page)) {
			t.Errorf("%s is not old", page)
		}
	}
}

func TestOldOfNothing(t *testing.T) {
	for _, l := range [][]string{nil, {}} {
		if got := oldOf(l); len(got.new) > 0 || !got.old || len(got.vars) > 0 {
			t.Errorf("the empty play: %v", got)
		}
	}
}

func oldPages() []string {
	out := slices.Concat(scopePages(), oldTongue(), []string{"(vars a a) (let given 1)", "(vars a) (do (vars b))"})
	for _, a := range arounds() {
		for _, deed := range newDeeds() {
			page, _ := deed.alone()
			out = append(out, a.with(page))
		}
	}
	return out
}

func TestOldOfPlays(t *testing.T) {
	for _, page := range oldPages() {
		checkOld(t, signsOf(t, page))
	}
}

// Another sign at each place: other names, and words that make another form.
func TestOldOfPlaysWithOneSignChanged(t *testing.T) {
	for _, page := range oldPages() {
		l := signsOf(t, page)
		for at := range l {
			for _, other := range []string{"a", "given", "7", "do", "vars", "hidden", "thing", "join", "get", "A"} {
				changed := slices.Clone(l)
				changed[at] = other
				checkOld(t, changed)
			}
			checkOld(t, slices.Delete(slices.Clone(l), at, at+1))
		}
		if t.Failed() {
			return
		}
	}
}

// Promise 6, of one list: what is OldOk is Scoped and has nothing new, what is
// Scoped and not OldOk has something new, and all VarsOf are names.
func checkPromiseSix(t *testing.T, l []string) {
	t.Helper()
	got := oldOf(l)
	if scoped := impl.Scoped(l); got.old != (scoped && len(got.new) == 0) || !scoped && len(got.new) > 0 {
		t.Errorf("%s: %v, Scoped is %v", shortList(l), got, scoped)
	}
	if !slices.Equal(got.new, inOrderOfTelling(got.new...)) {
		t.Errorf("%s: %q", shortList(l), got.new)
	}
	for _, word := range strings.Fields(newOrder)[1:] {
		if got.old && impl.Count(l, word) != 0 {
			t.Errorf("%s has a %s", shortList(l), word)
		}
	}
	if got.old && hasPairsWithin(playTree(l)) {
		t.Errorf("%s is given something", shortList(l))
	}
	for n, name := range got.vars {
		if !impl.NameOk(name) || impl.Reserved(name) || l[2+n] != name || !slices.Contains(impl.Declared(l), name) {
			t.Errorf("%s: %q", shortList(l), got.vars)
		}
	}
	if got.old && !slices.Equal(got.vars, impl.Declared(l)) {
		t.Errorf("%s: %q", shortList(l), got.vars)
	}
}

func TestWhatIsOldHasNothingNew(t *testing.T) {
	old, scoped := 0, 0
	count := func(l []string) {
		checkPromiseSix(t, l)
		if impl.OldOk(l) {
			old++
		}
		if impl.Scoped(l) {
			scoped++
		}
	}
	for _, page := range oldPages() {
		l := signsOf(t, page)
		count(l)
		for at := range l {
			for _, other := range []string{"1", "'let'", "given", "thing", "vars"} {
				changed := slices.Clone(l)
				changed[at] = other
				count(changed)
			}
		}
	}
	if old < 100 || scoped-old < 100 {
		t.Errorf("only %d were old, %d new", old, scoped-old)
	}
}

// What is old stays so in a fn, and in a do if it has no vars; what is new is
// new wherever it stands beside that.
func TestOldWithinAndBeside(t *testing.T) {
	for _, page := range oldTongue() {
		checkNew(t, "(run (fn () "+page+"))")
		if impl.HeadOf(signsOf(t, page), 0) != "vars" {
			checkNew(t, "(do "+page+")")
		} else if impl.OldOk(signsOf(t, "(do "+page+")")) {
			t.Errorf("%s in a do is not Scoped", page)
		}
		for _, deed := range newDeeds() {
			beside, words := deed.alone()
			checkNew(t, page+" (do "+beside+")", strings.Fields(words)...)
			checkNew(t, "(do "+beside+") (run (fn () "+page+"))", strings.Fields(words)...)
		}
	}
}

func checkNoOld(t *testing.T, l []string) {
	t.Helper()
	if got := oldOf(l); len(got.new) > 0 || got.old || len(got.vars) > 0 {
		t.Errorf("%s is no play: %v", shortList(l), got)
	}
}

// What is no play beside deeds that have vars and something new.
func TestOldOfWhatIsNoPlay(t *testing.T) {
	play := signsOf(t, "(vars a) (let b (fn ((c 1)) (back (join c))))")
	for _, page := range []string{
		"a", "5", "'a'", "none", "+", "(", ")", "( )", "(+ 1 2)", "(call f)", "(join)", "(fn ((a 1)) (let b 1))", "(hget p a)", "(vars", "(vars a", "(vars a))", "(do (vars a)", ")(", "(vars 5)", "(vars (a))", "(vars none)", "(vars let)", "(vars a vars)", "((vars a))", "vars", "(a vars)", "let", "for",
		"(let)", "(let a)", "(let let 1)", "(take () 1)", "(take a 1)", "(hidden (p))", "(for i 0 3)", "(for)", "(say (fn))", "(say (fn a))", "(say (fn ((a))))", "(say (fn ((a 1 2))))", "(say (fn (()))) ", "(given)", "(given 1)", "(say (given 1))",
		"(if 1 (let a 1) (do))", "(while 1 (vars a))", "(for i 0 3 (take (a) 1))", "(hput p)", "(hget p)", "(set)", "(leave 1)",
	} {
		l := signsOf(t, page)
		for _, list := range [][]string{l, slices.Concat(play, l), slices.Concat(l, play), slices.Concat([]string{"(", "do"}, play, l, []string{")"}), slices.Concat(play[:4], l)} {
			checkNoOld(t, list)
		}
	}
	for _, bad := range wrongSigns() {
		for _, list := range [][]string{{bad}, slices.Concat(play, []string{bad}), slices.Concat([]string{bad}, play), {"(", "vars", bad, ")"}, {"(", "vars", "a", bad, ")"}, {"(", "let", bad, "1", ")"}, {"(", bad, "a", ")"}, {"(", "say", "(", "join", bad, ")", ")"}, {"(", "say", "(", "fn", "(", "(", bad, "1", ")", ")", ")", ")"}, {"(", bad}, {"(", "vars", bad}} {
			checkNoOld(t, list)
		}
	}
}

func TestOldAtMaxSigns(t *testing.T) {
	names := slices.Repeat([]string{"a"}, impl.MaxSigns-3)
	vars := slices.Concat([]string{"(", "vars"}, names, []string{")"})
	if got := oldOf(vars); len(vars) != impl.MaxSigns || len(got.new) > 0 || got.old || !slices.Equal(got.vars, names) {
		t.Errorf("%d signs, %d vars", len(vars), len(got.vars))
	}
	checkNoOld(t, slices.Concat([]string{"(", "vars", "a"}, names, []string{")"}))
	for _, last := range []namesCase{{"(let a 1)", "let"}, {"(say (join))", "join"}, {"(for i 0 1 (do))", "for"}, {"(run (fn ((a 1))))", "given"}, {"(take (a) 1)", "take"}, {"(hidden)", "hidden"}, {"(do (do) (do))", ""}, {"(say 1)", ""}} {
		deed, ahead := signsOf(t, last.page), []string{"(", "vars", "v", ")"}
		room := impl.MaxSigns - len(ahead) - len(deed)
		// A say has 4 signs and a do 3, so that they fill whatever room there is.
		says, dos := room/4-3, room-4*(room/4-3)
		for dos%3 != 0 {
			says, dos = says-1, dos+4
		}
		fill := slices.Concat(slices.Repeat([]string{"(", "say", "v", ")"}, says), slices.Repeat([]string{"(", "do", ")"}, dos/3))
		for _, l := range [][]string{slices.Concat(ahead, fill, deed), slices.Concat(ahead, deed, fill)} {
			want := oldAnswers{strings.Fields(last.want), last.want == "", []string{"v"}}
			if got := oldOf(l); len(l) != impl.MaxSigns || !sameOld(got, want) {
				t.Errorf("%d signs with %s: %v", len(l), last.page, got)
			}
			checkNoOld(t, slices.Insert(slices.Clone(l), 3, "w"))
			checkNoOld(t, slices.Concat(l, []string{"(", "do", ")"}))
		}
	}
}

// As deep as may be, and one deeper, with something new, or nothing, innermost.
func TestOldAtMaxDepth(t *testing.T) {
	for _, inside := range []struct {
		page, want string
		depth      int
	}{
		{"( let a 1 )", "let", 1}, {"( hidden )", "hidden", 1}, {"( do )", "", 1}, {"( say ( join ) )", "join", 2}, {"( take ( a ) 1 )", "take", 2}, {"( for i 0 1 ( do ) )", "for", 2}, {"( run ( fn ( ( a 1 ) ) ) )", "given", 4}, {"( run ( fn ( given ) ) )", "", 3},
	} {
		deepest := impl.MaxDepth - inside.depth
		for n := range deepest + 1 {
			checkNew(t, strings.Join(within(n, "( do", inside.page, ")"), " "), strings.Fields(inside.want)...)
		}
		for _, n := range []int{deepest + 1, deepest + 2, impl.MaxSigns, 100000} {
			l := within(n, "( do", inside.page, ")")
			checkNoOld(t, l)
			checkNoOld(t, slices.Concat([]string{"(", "vars", "b", ")"}, l))
			checkNoOld(t, l[:len(l)-1])
		}
	}
	for _, n := range []int{impl.MaxSigns, 100000} {
		checkNoOld(t, within(n, "(", "vars", ")"))
		checkNoOld(t, within(n, "(", "", ""))
		checkNoOld(t, within(n, "( vars", "", ")"))
		checkNoOld(t, within(n, "( fn ( ( a", "1", ") ) )"))
		checkNoOld(t, within(n, ")", "", "("))
	}
}

// Promise 21, for the functions of chapter 6, from here on.
func oldLists(t *testing.T) [][]string {
	lists := append(scopeLists(t), within(impl.MaxDepth+1, "( do", "", ")"))
	for _, page := range slices.Concat(oldPages(), brokenPages()) {
		lists = append(lists, signsOf(t, page))
	}
	return lists
}

func TestOldLeavesWhatIsGiven(t *testing.T) {
	for _, given := range oldLists(t) {
		l, room := roomy(given)
		was := slices.Clone(room)
		for _, call := range []func([]string) []string{impl.NewIn, impl.VarsOf} {
			answer := call(l)
			kept := slices.Clone(answer)
			if !slices.Equal(room, was) {
				t.Fatalf("%q became %q", was, room)
			}
			other := call(l)
			overwritten(other)
			if !slices.Equal(room, was) || !slices.Equal(answer, kept) {
				t.Fatalf("%s: an answer shares memory with another one, or with what was given", shortList(l))
			}
			if again := call(l); !slices.Equal(again, kept) {
				t.Fatalf("%s: %q, and again %q", shortList(l), kept, again)
			}
		}
		impl.OldOk(l)
		if !slices.Equal(room, was) {
			t.Fatalf("%q became %q", was, room)
		}
	}
}

// What is asked again is answered again, whatever was asked between.
func TestOldKeepsNothing(t *testing.T) {
	lists := oldLists(t)
	for range 2 {
		for _, l := range lists {
			if len(l) < 300 {
				checkOld(t, l)
			}
		}
		slices.Reverse(lists)
	}
}

// What stands in the spare room behind a play is no part of it.
func TestOldDoesNotReadTheSpareRoom(t *testing.T) {
	whole := signsOf(t, "(vars a b) (say a) (let c 1) (say (join))")
	for _, c := range []struct {
		length int
		want   oldAnswers
	}{
		{0, oldAnswers{nil, true, nil}}, {5, oldAnswers{nil, true, []string{"a", "b"}}}, {9, oldAnswers{nil, true, []string{"a", "b"}}},
		{14, oldAnswers{[]string{"let"}, false, []string{"a", "b"}}}, {20, oldAnswers{[]string{"join", "let"}, false, []string{"a", "b"}}},
	} {
		if got := oldOf(whole[:c.length]); !sameOld(got, c.want) {
			t.Errorf("%q: %v", whole[:c.length], got)
		}
	}
	for n := range whole {
		if !impl.PlayOk(whole[:n]) {
			checkNoOld(t, whole[:n])
		}
	}
}

// The line "old" of the document's chapter Ways.
func TestKindsAreByIotaAndASwitchFallsThrough(t *testing.T) {
	path := "../impl/l06_old.go"
	if !hasBranch(t, path, token.FALLTHROUGH) {
		t.Error("no switch falls through in the layer of the old tongue")
	}
	isIota := func(n ast.Node) bool {
		name, is := n.(*ast.Ident)
		return is && name.Name == "iota"
	}
	if !hasNode(t, path, isIota) {
		t.Error("no kinds by iota in the layer of the old tongue")
	}
}
