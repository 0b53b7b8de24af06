package tests

import (
	"fmt"
	"slices"
	"strings"
	"testing"

	"loop.example/g00544/impl"
)

// A namesCase is a page, and names with blanks between that are answered of it.
type namesCase struct{ page, want string }

func checkNames(t *testing.T, call func([]string) []string, cases []namesCase) {
	t.Helper()
	for _, c := range cases {
		if got := call(signsOf(t, c.page)); !slices.Equal(got, strings.Fields(c.want)) {
			t.Errorf("%s: %q; want %q", c.page, got, c.want)
		}
	}
}

func TestDeclared(t *testing.T) {
	checkNames(t, impl.Declared, []namesCase{
		{"", ""}, {"(say a)", ""}, {"(set a 1)", ""},
		{"(let a 1)", "a"}, {"(let b 1) (let a 2) (let c 3)", "b a c"},
		{"(take (a) 1)", "a"}, {"(take (c a b) (thing 1 2 3))", "c a b"},
		{"(vars)", ""}, {"(vars a)", "a"}, {"(vars b a c)", "b a c"},
		{"(vars q) (let a 1) (take (b c) a) (say 1) (let d 1)", "q a b c d"},
		{"(let a 1) (do) (vars c b) (take (z) 1) (vars y)", "a c b z y"},
		// One that stands twice, twice.
		{"(let a 1) (let a 2)", "a a"}, {"(take (a b a) 1) (let b 1)", "a b a b"}, {"(vars a a) (let b 1) (let a 1)", "a a b a"},
		// What stands within is not the play's own.
		{"(do (let a 1) (take (b) 1) (vars c))", ""}, {"(do (do (let a 1)))", ""},
		{"(say (fn (p (q 1)) (let a 1) (take (b) 1) (vars c)))", ""},
		{"(if 1 (do (let a 1)) (do (take (b) 1)))", ""}, {"(while 1 (do (let a 1) (take (b) 1)))", ""}, {"(for i 0 3 (do (let a 1)))", ""}, {"(for i 0 3 (say i))", ""},
		{"(let f (fn (x) (let a 1))) (do (let b 1)) (take (g h) (fn (y) (vars c)))", "f g h"},
		{"(let a (fn () (let a 1) (let a 2)))", "a"},
		// NAMEs of a hidden are another matter.
		{"(hidden a b)", ""}, {"(hidden a) (let a 1)", "a"},
	})
}

func TestFreeIn(t *testing.T) {
	checkNames(t, impl.FreeIn, []namesCase{
		{"", ""}, {"(say 1) (say 'a') (say none) (say (table))", ""}, {"(leave)", ""},
		// In sums and of sets; rising, each once.
		{"(say a)", "a"}, {"(set a 1)", "a"}, {"(set a a)", "a"}, {"(set b a)", "a b"}, {"(say c) (say b) (say c) (say a) (set b 1)", "a b c"},
		{"(say (+ (- a b) (* c (< d (= e (& f 1))))))", "a b c d e f"}, {"(say (call f a b))", "a b f"}, {"(say (thing x (get y z)))", "x y z"}, {"(say (join a 'b' (join c)))", "a c"}, {"(say (tget a b))", "a b"}, {"(say (hget a b))", "b"},
		{"(let a b)", "b"}, {"(take (a b) c)", "c"}, {"(if a (say b) (say c))", "a b c"}, {"(while a (say b))", "a b"}, {"(for a b c (say d))", "b c d"}, {"(back a)", "a"}, {"(put a b c)", "a b c"}, {"(run a)", "a"}, {"(hput a b c)", "b c"}, {"(tput a b c)", "a b c"}, {"(do (say a) (do (say b)))", "a b"},
		{"(say b10) (say b9) (say b) (say ba) (say abcdefgh) (say z)", "abcdefgh b b10 b9 ba z"},
		// A name is known in all of what it is declared in, ahead of the deed that declares it and in it, too.
		{"(let a 1) (say a)", ""}, {"(say a) (let a 1)", ""}, {"(set a 1) (take (b a) 1)", ""}, {"(say a) (vars a)", ""}, {"(let a a)", ""}, {"(take (a b) (thing b a))", ""}, {"(let a b) (let b a)", ""},
		{"(do (say a)) (let a 1)", ""}, {"(let f (fn () (back a))) (let a 1)", ""}, {"(if a (set a 1) (say a)) (let a 1)", ""}, {"(for i a a (say a)) (let a 1)", ""},
		// But not behind what it is declared in.
		{"(do (let a 1)) (say a)", "a"}, {"(say a) (do (let a 1))", "a"}, {"(do (let a 1)) (do (say a))", "a"}, {"(do (do (let a 1)) (say a))", "a"}, {"(do (do (take (a) 1)) (vars b)) (set b a)", "a b"},
		{"(if 1 (do (let a 1)) (say a))", "a"}, {"(while a (do (let a 1)))", "a"}, {"(for i a 3 (do (let a 1)))", "a"}, {"(run (fn () (let a 1))) (say a)", "a"},
		// PARAMs, around the block of a fn.
		{"(run (fn (a) (say a)))", ""}, {"(run (fn (a b) (do (say a) (run (fn () (set b 1))))))", ""}, {"(run (fn (a) (say b)))", "b"}, {"(run (fn (a))) (say a)", "a"}, {"(say a) (run (fn (a)))", "a"}, {"(run (call (fn (a)) a))", "a"}, {"(run (fn (a) (say (fn (b) (say a))) (say b)))", "b"},
		// The SUM of a PARAM knows the PARAMs and what is around, but nothing of the block.
		{"(run (fn ((a b))))", "b"}, {"(run (fn ((a 1)) (say a)))", ""}, {"(run (fn (x (y x)) (say y)))", ""}, {"(run (fn ((x y) y)))", ""}, {"(run (fn ((x x))))", ""}, {"(let b 1) (run (fn ((a b))))", ""}, {"(run (fn ((a b)) (let b 1)))", "b"}, {"(run (fn (x (y z)) (say w)))", "w z"}, {"(run (fn ((a (fn (b) (say b) (say a) (say c))))))", "c"},
		// A for's NAME, in its DEED, not in its two SUMs.
		{"(for i 0 3 (say i))", ""}, {"(for i 0 3 (do (set i 1) (run (fn () (say i)))))", ""}, {"(for i i 3 (do))", "i"}, {"(for i 0 i (do))", "i"}, {"(for i 0 3 (say i)) (say i)", "i"}, {"(for i 0 3 (for j i 3 (say (+ i j))))", ""}, {"(for i 0 3 (for j j i (say j)))", "j"}, {"(let i 1) (for i i i (say i))", ""}, {"(for i 0 (fn () (say i)) (do))", "i"},
		// One name, within and around.
		{"(let a 1) (do (let a 2) (say a)) (say a)", ""}, {"(let a (fn (a) (let a 1) (say a)))", ""}, {"(do (let a 1) (do (let a 2) (say a))) (say a)", "a"}, {"(for a 0 3 (for a 0 3 (do (let a 1) (say a))))", ""}, {"(run (fn (a) (do (let a 1)) (say a)))", ""},
		// What is hidden is known to hget and hput alone.
		{"(hidden a) (say a)", "a"}, {"(hidden a) (hput a a a)", "a"}, {"(let a 1) (hidden a) (say (hget a a))", ""}, {"(say (hget a 1)) (hput a 1 2)", ""},
		// It is no matter what else is amiss.
		{"(let a 1) (let a 2) (leave) (say b)", "b"}, {"(do) (vars a) (set a c)", "c"}, {"(do (vars a) (set a 1))", ""}, {"(run (fn (x x) (say x) (say y)))", "y"},
		{"(let a b) (do (let c 1) (set a c)) (set c 2) (run (fn (x (y z)) (say w)))", "b c w z"},
	})
}

func TestSecret(t *testing.T) {
	checkNames(t, impl.Secret, []namesCase{
		{"", ""}, {"(say a)", ""}, {"(hidden a)", ""}, {"(hidden)", ""},
		{"(say (hget a 1))", "a"}, {"(hput a 1 2)", "a"}, {"(hput c 1 (hget b (hget a (hget c 1))))", "a b c"}, {"(hput a10 1 2) (hput a9 1 2) (hput a 1 2)", "a a10 a9"},
		{"(hidden p) (hput p 1 2)", ""}, {"(hput p 1 2) (hidden p)", ""}, {"(hidden p q) (hput q 1 (hget p 1))", ""}, {"(hidden p) (hidden q) (hput q 1 (hget p 1))", ""}, {"(hidden) (hput p 1 2)", "p"},
		{"(run (fn () (hput p 1 2))) (hidden p)", ""}, {"(do (do (hput p 1 2))) (hidden p)", ""}, {"(while (hget p 1) (for i (hget p 1) (hget p 1) (hput p 1 2))) (hidden p)", ""}, {"(hidden p) (run (fn ((x (hget p 1)))))", ""},
		{"(do (hidden p)) (hput p 1 2)", "p"}, {"(do (hidden p) (do (hput p 1 2)))", ""}, {"(run (fn () (hidden p) (hput p 1 2)))", ""}, {"(run (fn () (hidden p))) (say (hget p 1))", "p"}, {"(do (hidden p)) (do (hput p 1 2))", "p"}, {"(run (fn ((x (hget p 1))) (hidden p)))", "p"},
		{"(hidden p) (do (hidden p) (hput p 1 2)) (hput p 1 2)", ""},
		// A let, a take, a vars, a PARAM and a for declare nothing of this matter.
		{"(let p 1) (hput p 1 2)", "p"}, {"(take (p q) 1) (hput p 1 (hget q 1))", "p q"}, {"(vars p) (hput p 1 2)", "p"}, {"(run (fn (p (q 1)) (hput p 1 (hget q 1))))", "p q"}, {"(for p 0 1 (hput p 1 2))", "p"}, {"(let p 1) (hidden p) (hput p p p)", ""}, {"(hidden p p) (hput q 1 2)", "q"},
	})
}

func checkScoped(t *testing.T, want bool, pages ...string) {
	t.Helper()
	for _, page := range pages {
		l := signsOf(t, page)
		if !impl.PlayOk(l) {
			t.Errorf("%s: the test itself is wrong: no play", page)
		}
		if got := impl.Scoped(l); got != want {
			t.Errorf("Scoped(%s) is %v", page, got)
		}
	}
}

func TestScoped(t *testing.T) {
	checkScoped(t, true,
		"", "(say 1)", "(say a) (let a 1)", "(let a (fn (a) (let a 1) (say a)))", "(let a 1) (do (let a 2) (do (let a 3)))", "(let a 1) (hidden a)", "(hidden a) (let a 1) (hput a a a)",
		"(take (a b) 1) (let c 1)", "(run (fn (a b (c 1) (d 2))))", "(hidden p q) (hidden r)", "(hidden p) (do (hidden p))", "(hidden) (hidden)", "(do (let a 1)) (do (let a 1))", "(run (fn (a))) (run (fn (a)))", "(run (fn (a) (run (fn (a)))))", "(for i 0 1 (for i 0 1 (do (let i 1))))",
		"(run (fn (x (y x)) (say y)))", "(run (fn () (hput p 1 2))) (hidden p)", "(back 1)", "(run (fn () (back 1)))",
	)
}

// brokenAlone checks pages of which all that Scoped asks for holds but one thing
// that is neither FreeIn nor Secret.
func brokenAlone(t *testing.T, pages ...string) {
	t.Helper()
	checkScoped(t, false, pages...)
	for _, page := range pages {
		l := signsOf(t, page)
		if free, secret := impl.FreeIn(l), impl.Secret(l); len(free) > 0 || len(secret) > 0 {
			t.Errorf("%s: %q are free, %q secret", page, free, secret)
		}
	}
}

func TestScopedAsksForAllNames(t *testing.T) {
	checkScoped(t, false, "(say a)", "(set a 1)", "(let a b)", "(do (let a 1)) (say a)", "(for i i 3 (do))", "(for i 0 i (do))", "(run (fn ((a b))))", "(run (fn ((a b)) (let b 1)))", "(hidden a) (say a)")
	checkScoped(t, false, "(say (hget p 1))", "(hput p 1 2)", "(let p 1) (hput p 1 2)", "(do (hidden p)) (hput p 1 2)", "(run (fn (p) (hput p 1 2)))")
}

func TestScopedAsksThatNoneIsDeclaredTwice(t *testing.T) {
	for _, around := range []string{"HERE", "(do HERE)", "(run (fn () HERE))", "(run (fn (a) HERE))", "(run (fn ((x (fn () HERE)))))", "(let b 1) (do HERE)", "(while 1 (do HERE))", "(for a 0 1 (do HERE))", "(if 1 (do) (do HERE))", "(let a 1) (do (do HERE) (do))"} {
		for _, twice := range []string{
			"(let a 1) (let a 2)", "(let a 1) (take (a) 1)", "(take (a) 1) (let a 1)", "(take (a a) 1)", "(take (a b a) 1)", "(take (b a) 1) (take (a c) 1)", "(let a 1) (say 1) (do) (let a 1)", "(let c 1) (let a 1) (let b 1) (let a 1)",
			"(hidden p p)", "(hidden p q p)", "(hidden p) (hidden p)", "(hidden q p) (do) (hidden r p)", "(let p 1) (hidden p) (hidden p)",
		} {
			brokenAlone(t, strings.ReplaceAll(around, "HERE", twice))
		}
		for _, once := range []string{"(let a 1) (let c 2)", "(let a 1) (take (c) 1)", "(take (a c d) 1)", "(let a 1) (do (let a 2))", "(do (let a 2)) (let a 1)", "(hidden p) (hidden q)", "(hidden a) (let a 1)", "(hidden p) (do (hidden p))"} {
			checkScoped(t, true, strings.ReplaceAll(around, "HERE", once))
		}
	}
	brokenAlone(t, "(vars a) (let a 1)", "(vars a) (take (b a) 1)", "(vars a a)", "(vars a b a)", "(run (fn () (vars a a)))", "(run (fn () (vars b) (let b 1)))", "(run (fn (b) (vars a b) (take (b) 1)))")
	checkScoped(t, true, "(vars a) (let b 1)", "(vars a b) (do (let a 1))", "(vars a) (hidden a)", "(run (fn (a) (vars a)))", "(vars a) (run (fn () (vars a)))")
	brokenAlone(t, "(run (fn (a a)))", "(run (fn (a b a)))", "(run (fn (a (a 1))))", "(run (fn ((a 1) a)))", "(run (fn ((a 1) (b 1) (a 1))))", "(run (fn (a) (run (fn (b b)))))", "(run (fn ((x (fn (a a))))))", "(while 1 (run (fn (a a))))")
}

func TestScopedAsksWhereLeaveAndNextStand(t *testing.T) {
	for _, way := range []string{"(leave)", "(next)"} {
		for _, page := range []string{
			"HERE", "(do HERE)", "(if 1 HERE (do))", "(if 1 (do) HERE)", "(run (fn () HERE))", "(run (fn () (do HERE)))", "(while 1 (do)) HERE", "HERE (while 1 (do))", "(for i 0 1 (do)) HERE",
			"(while 1 (run (fn () HERE)))", "(for i 0 1 (run (fn () HERE)))", "(while 1 (do (run (fn () (if 1 HERE (do))))))", "(while 1 (run (fn ((a (fn () HERE))))))", "(while 1 (while 1 (run (fn () HERE))))",
			"(while (fn () HERE) (do))", "(for i (fn () HERE) 1 (do))", "(for i 0 (fn () HERE) (do))", "(while 1 (do (run (fn () (while 1 (do)) HERE)) (leave)))", "(run (fn () (while 1 (do)) HERE))", "(while 1 (while (fn () HERE) (do)))",
		} {
			brokenAlone(t, strings.ReplaceAll(page, "HERE", way))
		}
		for _, page := range []string{
			"(while 1 HERE)", "(for i 0 1 HERE)", "(while 1 (do HERE))", "(for i 0 1 (do (do HERE)))", "(while 1 (if 1 HERE HERE))", "(while 1 (do (while 1 (do)) HERE))", "(while 1 (do (for i 0 1 (do)) HERE))", "(while 1 (do (run (fn ())) HERE))", "(while 1 (do (say 1) HERE (say 2)))",
			"(run (fn () (while 1 HERE)))", "(while 1 (run (fn () (for i 0 1 HERE))))", "(while (fn () (while 1 HERE)) (do))", "(while 1 (while 1 HERE))", "(run (fn ((a (fn () (while 1 HERE))))))",
		} {
			checkScoped(t, true, strings.ReplaceAll(page, "HERE", way))
		}
	}
}

func TestScopedAsksWhereVarsStand(t *testing.T) {
	for _, vars := range []string{"(vars)", "(vars v)", "(vars v w)"} {
		for _, page := range []string{
			"(do) HERE", "(let a 1) HERE", "(vars a) HERE", "(vars) HERE", "(hidden) HERE", "(do HERE)", "(do HERE (say 1))", "(do) (do HERE)", "(vars) (do HERE)", "(while 1 (do HERE))", "(for i 0 1 (do HERE))", "(if 1 (do HERE) (do))",
			"(run (fn () (do) HERE))", "(run (fn () (vars a) HERE))", "(run (fn () (do HERE)))", "(run (fn (a) (say a) HERE))",
			"(run (fn ((x 1)) HERE))", "(run (fn (a (x 1)) HERE))", "(run (fn ((x 1) a) HERE))", "(run (fn (a (x 1) b) HERE (say a)))", "(run (fn () (run (fn ((x 1)) HERE))))", "(run (fn ((x 1)) (do HERE)))",
		} {
			brokenAlone(t, strings.ReplaceAll(page, "HERE", vars))
		}
		for _, page := range []string{
			"HERE", "HERE (say 1)", "HERE (do)", "(run (fn () HERE))", "(run (fn () HERE (say 1)))", "(run (fn (a b) HERE))", "(let a 1) (run (fn () HERE))", "(do (run (fn (a) HERE)))", "HERE (run (fn () HERE))",
			"(run (fn ((x (fn () HERE)))))", "(run (fn ((x 1)) (run (fn () HERE))))", "(run (fn ((x 1)))) (run (fn (y) HERE))", "(while 1 (run (fn () HERE)))",
		} {
			checkScoped(t, true, strings.ReplaceAll(page, "HERE", vars))
		}
	}
}

func scopeOf(l []string) scopeAnswers {
	return scopeAnswers{impl.Declared(l), impl.FreeIn(l), impl.Secret(l), impl.Scoped(l)}
}

func checkScope(t *testing.T, l []string) {
	t.Helper()
	got, want := scopeOf(l), scopeSlowly(l)
	if !slices.Equal(got.declared, want.declared) || !slices.Equal(got.free, want.free) || !slices.Equal(got.secret, want.secret) || got.scoped != want.scoped {
		t.Errorf("%s: %v; want %v", shortList(l), got, want)
	}
}

func scopePages() []string {
	return append(playPages(),
		"(let a b) (do (let c 1) (set a c)) (set c 2) (run (fn (x (y z)) (say w)))",
		"(vars q) (let a 1) (take (b c) a) (do (let d 1)) (say (+ a (+ b (+ c q))))",
		"(hidden p) (let t (thing)) (hput p t 1) (say (hget p t)) (do (hidden p) (hput p t (hget q t)))",
		"(for i 0 3 (for j i 3 (do (let k (* i j)) (if (< k 2) (next) (leave)) (say k))))",
		"(let f (fn (a (b a) (c (fn () (back b)))) (let d (call c)) (back (fn (a) (back (+ a d)))))) (say (call (call f 1) 2))",
		"(say (call (fn () (vars a b) (set a 1) (while (< a 3) (do (set a (+ a 1)) (run (fn () (while 1 (leave)))))) (back b))))",
	)
}

func TestScopeOfPlays(t *testing.T) {
	for _, page := range scopePages() {
		checkScope(t, signsOf(t, page))
	}
}

// Another sign at each place: other names, and words that make another form.
func TestScopeOfPlaysWithOneSignChanged(t *testing.T) {
	for _, page := range scopePages() {
		l := signsOf(t, page)
		for at := range l {
			for _, other := range []string{"a", "b", "p", "z", "7", "none", "do", "vars", "hidden", "leave", "hget", "get", "while", "A", ")"} {
				changed := slices.Clone(l)
				changed[at] = other
				checkScope(t, changed)
			}
			checkScope(t, slices.Delete(slices.Clone(l), at, at+1))
		}
		if t.Failed() {
			return
		}
	}
}

// Whatever stands within whatever stands within whatever.
func TestScopeOfPlaysWithinOneAnother(t *testing.T) {
	arounds := []string{
		"HERE", "(do HERE)", "HERE (let a 1)", "(do (let b a) HERE)", "(do HERE (take (a b) c))", "(vars a) HERE", "(hidden a) HERE", "(do HERE (hidden b))",
		"(run (fn (a) HERE))", "(run (fn ((b a)) HERE))", "(run (fn ((a (fn (b) HERE))) (let c 1)))", "(run (fn () (vars c) HERE))",
		"(for a b 1 HERE)", "(for b 1 (fn () HERE) (do))", "(while a (do HERE))", "(if b HERE (do (let a 1)))", "HERE (do HERE)",
	}
	insides := []string{"(set b a)", "(leave)", "(let b c)", "(hput a 1 (hget b 1))", "(vars b)", "(hidden a)", "(run (fn (a (b a)) (take (c) b)))"}
	put := func(around string, inside string) string { return strings.ReplaceAll(around, "HERE", inside) }
	for _, outer := range arounds {
		for _, middle := range arounds {
			for _, inner := range arounds {
				for _, inside := range insides {
					checkScope(t, signsOf(t, put(outer, put(middle, put(inner, inside)))))
				}
			}
			if t.Failed() {
				return
			}
		}
	}
}

func without(names []string, name string) []string {
	return slices.DeleteFunc(slices.Clone(names), func(other string) bool { return other == name })
}

func rises(names []string) bool {
	return slices.IsSorted(names) && len(slices.Compact(slices.Clone(names))) == len(names)
}

// Promise 5.
func TestWhatIsFreeInAPlayIsKnownNowhereInIt(t *testing.T) {
	for _, page := range scopePages() {
		l := signsOf(t, page)
		free, secret := impl.FreeIn(l), impl.Secret(l)
		if !rises(free) || !rises(secret) {
			t.Errorf("%s: %q, %q", page, free, secret)
		}
		for _, name := range free {
			if !impl.NameOk(name) || impl.Reserved(name) || !slices.Contains(l, name) || slices.Contains(impl.Declared(l), name) {
				t.Errorf("%s: %q is not free", page, name)
			}
			for _, known := range []string{"(let NAME 1)", "(take (NAME) 1)", "(vars NAME)"} {
				declares := signsOf(t, strings.ReplaceAll(known, "NAME", name))
				for _, both := range [][]string{slices.Concat(declares, l), slices.Concat(l, declares)} {
					if got := impl.FreeIn(both); !slices.Equal(got, without(free, name)) {
						t.Errorf("%s: %q are free", shortList(both), got)
					}
					if got := impl.Secret(both); !slices.Equal(got, secret) {
						t.Errorf("%s: %q are secret", shortList(both), got)
					}
				}
			}
		}
		for _, name := range secret {
			hidden := signsOf(t, "(hidden "+name+")")
			for _, both := range [][]string{slices.Concat(hidden, l), slices.Concat(l, hidden)} {
				if got := impl.Secret(both); !slices.Equal(got, without(secret, name)) {
					t.Errorf("%s: %q are secret", shortList(both), got)
				}
				if got := impl.FreeIn(both); !slices.Equal(got, free) {
					t.Errorf("%s: %q are free", shortList(both), got)
				}
			}
		}
	}
}

// Promise 5: one that is Scoped has none; and one that has all its names is Scoped
// where nothing else is amiss.
func TestWhatIsScopedHasNothingFree(t *testing.T) {
	scoped := 0
	for _, page := range scopePages() {
		l := signsOf(t, page)
		for at := range l {
			for _, name := range []string{"a", "b", "zz"} {
				changed := slices.Clone(l)
				changed[at] = name
				free, secret := impl.FreeIn(changed), impl.Secret(changed)
				if !impl.Scoped(changed) {
					continue
				}
				scoped++
				if len(free) > 0 || len(secret) > 0 || !impl.PlayOk(changed) {
					t.Errorf("%s is Scoped; %q, %q", shortList(changed), free, secret)
				}
			}
		}
	}
	if scoped < 50 {
		t.Errorf("only %d were Scoped", scoped)
	}
	all := signsOf(t, "(hput p a (hget q b)) (set c (call f a))")
	for _, name := range impl.FreeIn(all) {
		all = append(all, signsOf(t, "(let "+name+" none)")...)
	}
	for _, name := range impl.Secret(all) {
		all = append(all, signsOf(t, "(hidden "+name+")")...)
	}
	if !impl.Scoped(all) {
		t.Errorf("%q is Scoped", all)
	}
}

func checkNoScope(t *testing.T, l []string) {
	t.Helper()
	if got := scopeOf(l); len(got.declared) > 0 || len(got.free) > 0 || len(got.secret) > 0 || got.scoped {
		t.Errorf("%s is no play: %v", shortList(l), got)
	}
}

// What is no play beside deeds that would declare and ask.
func TestScopeOfWhatIsNoPlay(t *testing.T) {
	play := signsOf(t, "(let a 1) (say b) (hput p a b)")
	for _, page := range []string{
		"a", "5", "'a'", "none", "+", "(", ")", "( )", "(+ 1 2)", "(call f)", "(fn (a) (let b 1))", "(hget p a)", "(say", "(let a 1", "(let a 1))", "(do (let a 1)", ")(", "(say)", "(let a)", "(let let 1)", "(let 5 1)", "(take () 1)", "(take a 1)", "(vars 5)", "(hidden (p))", "(fn)", "(say (fn))", "(say (fn a))", "(say (fn ((a))))",
		"(if 1 (let a 1) (do))", "(while 1 (vars a))", "(for i 0 3 (take (a) 1))", "(for i 0 3)", "(for)", "(while)", "(hput p)", "(hput)", "(set)", "(leave 1)", "((let a 1))", "(let)", "(take)", "(a b c)",
	} {
		l := signsOf(t, page)
		for _, list := range [][]string{l, slices.Concat(play, l), slices.Concat(l, play), slices.Concat([]string{"(", "do"}, play, l, []string{")"})} {
			checkNoScope(t, list)
		}
	}
	for _, bad := range wrongSigns() {
		for _, list := range [][]string{{bad}, slices.Concat(play, []string{bad}), slices.Concat([]string{bad}, play), {"(", "say", bad, ")"}, {"(", "let", bad, "1", ")"}, {"(", bad, "a", ")"}, {"(", "vars", "a", bad, ")"}, {"(", "hput", bad, "1", "2", ")"}} {
			checkNoScope(t, list)
		}
	}
}

func TestScopeOfNothing(t *testing.T) {
	for _, l := range [][]string{nil, {}} {
		if got := scopeOf(l); len(got.declared) > 0 || len(got.free) > 0 || len(got.secret) > 0 || !got.scoped {
			t.Errorf("the empty play: %v", got)
		}
	}
}

func TestScopeAtMaxSigns(t *testing.T) {
	var many []string
	for n := range impl.MaxSigns/5 - 1 {
		many = append(many, "(", "let", fmt.Sprintf("n%d", n), fmt.Sprintf("n%d", n+1), ")")
	}
	last := fmt.Sprintf("n%d", impl.MaxSigns/5-1)
	many = append(many, "(", "vars", last, "p", ")")
	if free := impl.FreeIn(many); len(many) != impl.MaxSigns || len(free) > 0 || len(impl.Declared(many)) != impl.MaxSigns/5+1 || impl.Scoped(many) {
		t.Errorf("%d signs: %q", len(many), free)
	}
	first := slices.Concat(many[len(many)-5:], many[:len(many)-5])
	if !impl.Scoped(first) || impl.Declared(first)[0] != last {
		t.Error("with the vars ahead it is Scoped")
	}
	checkNoScope(t, append(slices.Clone(first), "p"))
	for _, l := range [][]string{
		slices.Concat(many, []string{"(", "do", ")"}),
		slices.Concat([]string{"(", "vars"}, slices.Repeat([]string{"a"}, impl.MaxSigns-2), []string{")"}),
		slices.Concat(many[:len(many)-5], []string{"(", "hput", "p", "a", "b", ")"}),
	} {
		if len(l) <= impl.MaxSigns {
			t.Fatalf("%d signs", len(l))
		}
		checkNoScope(t, l)
	}
}

// As deep as may be, and one deeper, with a name that is declared by the
// outermost block and used in the innermost one.
func TestScopeAtMaxDepth(t *testing.T) {
	for _, c := range []struct {
		ahead, behind string
		depth         int
	}{
		{"( do", ")", 1}, {"( do ( let b a )", ")", 1}, {"( while a", ")", 1}, {"( for b a a", ")", 1}, {"( run ( fn ( c b )", ") )", 2}, {"( if a ( do )", ")", 1}, {"( say ( fn ( ( b ( fn ( )", ") ) ) ) )", 5},
	} {
		for _, over := range []int{0, 1} {
			times := (impl.MaxDepth - 1) / c.depth
			rest := impl.MaxDepth - 1 - times*c.depth + over
			l := slices.Concat(within(rest, "( do", "", ""), within(times, c.ahead, "( set a d )", c.behind), within(rest, "", "", ")"))
			if over > 0 {
				checkNoScope(t, l)
				checkNoScope(t, slices.Concat(l, l))
				continue
			}
			if got := impl.FreeIn(l); !slices.Equal(got, []string{"a", "d"}) {
				t.Errorf("%s: %q", shortList(l), got)
			}
			known := slices.Concat(l, signsOf(t, "(let a 1) (take (d) 1)"))
			if got := impl.FreeIn(known); len(got) > 0 || !impl.Scoped(known) {
				t.Errorf("%s: %q", shortList(known), got)
			}
		}
	}
	for _, n := range []int{impl.MaxSigns, 100000} {
		checkNoScope(t, within(n, "( do", "( let a 1 )", ")"))
		checkNoScope(t, within(n, "( do", "( let a 1 )", ""))
		checkNoScope(t, within(n, "(", "a", ")"))
		checkNoScope(t, within(n, "(", "", ""))
	}
}

// Promise 21, for the functions of chapter 5, from here on.
func scopeLists(t *testing.T) [][]string {
	lists := append(itemLists(t), slices.Repeat([]string{"(", "leave", ")"}, impl.MaxSigns))
	for _, page := range scopePages() {
		lists = append(lists, signsOf(t, page))
	}
	return lists
}

func TestScopeLeavesWhatIsGiven(t *testing.T) {
	for _, given := range scopeLists(t) {
		l, room := roomy(given)
		was := slices.Clone(room)
		for _, call := range []func([]string) []string{impl.Declared, impl.FreeIn, impl.Secret} {
			answer := call(l)
			kept := slices.Clone(answer)
			if !slices.Equal(room, was) {
				t.Fatalf("%q became %q", was, room)
			}
			other := call(l)
			overwritten(other)
			if !slices.Equal(room, was) || !slices.Equal(answer, kept) {
				t.Fatalf("%s: an answer shares memory with another one, or with what was given", shortList(l))
			}
		}
		impl.Scoped(l)
		if !slices.Equal(room, was) {
			t.Fatalf("%q became %q", was, room)
		}
	}
}

// What is asked again is answered again, whatever was asked between.
func TestScopeKeepsNothing(t *testing.T) {
	lists := scopeLists(t)
	for range 2 {
		for _, l := range lists {
			if len(l) < 200 {
				checkScope(t, l)
			}
		}
		slices.Reverse(lists)
	}
}

// What stands in the spare room behind a play is no part of it.
func TestScopeDoesNotReadTheSpareRoom(t *testing.T) {
	whole := signsOf(t, "(say a) (hput p 1 2) (let a 1) (hidden p)")
	asked := whole[:len(whole)-9]
	if got := scopeOf(asked); len(got.declared) > 0 || !slices.Equal(got.free, []string{"a"}) || !slices.Equal(got.secret, []string{"p"}) || got.scoped {
		t.Errorf("%q: %v", asked, got)
	}
	if !impl.Scoped(whole) {
		t.Errorf("%q is Scoped", whole)
	}
	for n := 1; n < 4; n++ {
		checkNoScope(t, whole[:n])
	}
}

// The line "scope" of the document's chapter Ways.
func TestBlocksAreClearedMapsOfStructs(t *testing.T) {
	if !hasMapOfStructs(t, "../impl/l05_scope.go") {
		t.Error("no map whose keys are structs in the layer of who is known where")
	}
	if !hasCall(t, "../impl/l05_scope.go", "clear") {
		t.Error("nothing is cleared in the layer of who is known where")
	}
	if !hasStructCompared(t, "../impl/l05_scope.go") {
		t.Error("no structs are compared in the layer of who is known where")
	}
}
