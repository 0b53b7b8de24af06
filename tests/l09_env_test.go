package tests

import (
	"go/ast"
	"math"
	"slices"
	"strconv"
	"strings"
	"testing"

	"loop.example/g00544/impl"
)

// nameOfPlace is a name of its own for each place that an env may have.
func nameOfPlace(n int64) string { return "n" + strconv.FormatInt(n, 10) }

// bindsOf is an env of so many, each of a name of its own, each third one
// Secret.
func bindsOf(count int) []impl.Bind {
	return manyOf(count, func(n int64) impl.Bind {
		return impl.Bind{Name: nameOfPlace(n), Secret: n%3 == 2, At: 1000 + n}
	})
}

func manyNames(count int) []string {
	return manyOf(count, func(n int64) string { return "m" + strconv.FormatInt(n%1000, 10) })
}

func noNames() []string {
	return slices.Concat(wrongSigns(), marks(), []string{"(", ")", "0", "5", "-5", "''", "'a'", "aaaaaaaaa", strings.Repeat("a", 400), strings.Repeat("a", 1<<20)})
}

func rightAts() []int64 {
	return []int64{0, 1, 2, 399, 400, 401, 999, 1000, 999999999, lastAt - 1, lastAt}
}

func wrongAts() []int64 {
	return []int64{-1, -2, -lastAt, lastAt + 1, lastAt + 2, 1 << 32, -1 << 32, 1<<32 + 5, math.MinInt64, math.MinInt64 + 1, math.MaxInt64, math.MaxInt64 - 1}
}

// wrongBinds are wrong in one way each.
func wrongBinds() []impl.Bind {
	out := []impl.Bind{}
	for _, secret := range []bool{false, true} {
		for _, name := range noNames() {
			out = append(out, impl.Bind{Name: name, Secret: secret, At: 5})
		}
		for _, at := range wrongAts() {
			out = append(out, impl.Bind{Name: "x", Secret: secret, At: at})
		}
	}
	return out
}

func rightEnvs() [][]impl.Bind {
	return [][]impl.Bind{
		nil, {}, envOf("x=0"), envOf("!x=0"), envOf("x=1000000000"), envOf("x=3 y=4"), envOf("x=0 x=0"), envOf("x=0 !x=0"), envOf("!x=7 x=3 !x=5 x=9"),
		envOf("x=3 y=4 !x=0 x=9"), envOf("x=9 x=8 x=7 x=6 x=5"), envOf("none=1 let=2 !none=3 abcdefgh=4 a1234567=5"), bindsOf(5), bindsOf(399), bindsOf(400),
	}
}

// wrongEnvs are wrong in one way each: by one Bind, at the first place, in the
// middle or at the last one, or by their count.
func wrongEnvs() [][]impl.Bind {
	out := [][]impl.Bind{bindsOf(401), bindsOf(402), bindsOf(1000), slices.Repeat(envOf("x=0"), 401), slices.Repeat(envOf("x=0"), 1<<20)}
	for _, wrong := range wrongBinds() {
		out = append(out, []impl.Bind{wrong})
		for at := range 4 {
			out = append(out, slices.Insert(envOf("x=3 !x=4 y=5"), at, wrong))
		}
	}
	for _, at := range []int{0, 200, 399} {
		for _, wrong := range []impl.Bind{{Name: "", At: 5}, {Name: "x", At: -1}, {Name: "X"}, {Name: "x", At: lastAt + 1}} {
			env := bindsOf(400)
			env[at] = wrong
			out = append(out, env)
		}
	}
	return out
}

func checkEnvOk(t *testing.T, env []impl.Bind, want bool) {
	t.Helper()
	if got := impl.EnvOk(env); got != want || envSlowly(env) != want {
		t.Errorf("EnvOk(%s) is %v; want %v", showEnv(env), got, want)
	}
}

func checkBound(t *testing.T, env []impl.Bind, names []string, secret bool, from int64, want []impl.Bind) {
	t.Helper()
	if got := impl.Bound(env, names, secret, from); !slices.Equal(got, want) {
		t.Errorf("Bound(%s, %s, %v, %d) is %s; want %s", showEnv(env), shortList(names), secret, from, showEnv(got), showEnv(want))
	}
	if slow := boundSlowly(env, names, secret, from); !slices.Equal(slow, want) {
		t.Errorf("%s, %s, %v, %d: the slow reading has %s; want %s", showEnv(env), shortList(names), secret, from, showEnv(slow), showEnv(want))
	}
}

func checkLooked(t *testing.T, env []impl.Bind, name string, secret bool, want int64) {
	t.Helper()
	if got, slow := impl.Looked(env, name, secret), lookedSlowly(env, name, secret); got != want || slow != want {
		t.Errorf("Looked(%s, %s, %v) is %d, read slowly %d; want %d", showEnv(env), short(name), secret, got, slow, want)
	}
}

// askedNames are those that an env has, and some more, each once.
func askedNames(env []impl.Bind) []string {
	out := []string{"x", "y", "z", "none", "n0", "xx", "", "X", "x "}
	for _, b := range env {
		out = append(out, b.Name)
	}
	slices.Sort(out)
	return slices.Compact(out)
}

// checkWhoIsWho holds all three functions against the slow reading.
func checkWhoIsWho(t *testing.T, env []impl.Bind) {
	t.Helper()
	checkEnvOk(t, env, envSlowly(env))
	for _, secret := range []bool{false, true} {
		for _, name := range askedNames(env) {
			checkLooked(t, env, name, secret, lookedSlowly(env, name, secret))
		}
		for _, names := range [][]string{nil, {"x"}, {"x", "y"}, {"y", "x", "x"}, {"x", "X"}, {""}} {
			for _, from := range []int64{0, 7, -1, lastAt - 1, lastAt, lastAt + 1} {
				checkBound(t, env, names, secret, from, boundSlowly(env, names, secret, from))
			}
		}
	}
}

func TestEnvOkOfOrdinaryEnvs(t *testing.T) {
	for _, env := range rightEnvs() {
		checkEnvOk(t, env, true)
	}
	for _, words := range []string{"X=3", "=3", "!=3", "x=-1", "!x=-1", "abcdefghi=3", "x=1000000001", "!x=1000000001", "x=3 Y=4", "x-=3", "1x=3", "x=3 y=-4 z=5", "x=3 y=4 'z'=5", "(=1", "+=1 x=2", "5=5"} {
		checkEnvOk(t, envOf(words), false)
	}
}

func TestEnvOkOfEachWrongBindAtEachPlace(t *testing.T) {
	for _, env := range wrongEnvs() {
		checkEnvOk(t, env, false)
	}
}

// A limit that is met exactly is accepted, one that is passed by one is refused.
func TestEnvOkAtItsLimits(t *testing.T) {
	for _, secret := range []bool{false, true} {
		for _, at := range rightAts() {
			checkEnvOk(t, []impl.Bind{{Name: "x", Secret: secret, At: at}}, true)
			checkEnvOk(t, []impl.Bind{{Name: "x"}, {Name: "x", Secret: secret, At: at}}, true)
		}
		for _, at := range wrongAts() {
			checkEnvOk(t, []impl.Bind{{Name: "x", Secret: secret, At: at}}, false)
			checkEnvOk(t, []impl.Bind{{Name: "x"}, {Name: "x", Secret: secret, At: at}}, false)
		}
		for _, c := range []struct {
			count int
			want  bool
		}{{0, true}, {1, true}, {398, true}, {399, true}, {400, true}, {401, false}, {402, false}, {800, false}, {100000, false}} {
			checkEnvOk(t, slices.Repeat([]impl.Bind{{Name: "x", Secret: secret, At: 1}}, c.count), c.want)
			checkEnvOk(t, bindsOf(c.count), c.want)
		}
	}
}

func TestEnvsOfEachName(t *testing.T) {
	for _, secret := range []bool{false, true} {
		for _, name := range slices.Concat(rightNames(), reservedWords()) {
			env := []impl.Bind{{Name: name, Secret: secret, At: 5}}
			checkEnvOk(t, env, true)
			checkBound(t, nil, []string{name}, secret, 5, env)
			checkLooked(t, env, name, secret, 5)
			checkLooked(t, env, name, !secret, -1)
		}
		for _, name := range noNames() {
			checkEnvOk(t, []impl.Bind{{Name: name, Secret: secret, At: 5}}, false)
			checkBound(t, nil, []string{name}, secret, 5, nil)
			checkLooked(t, envOf("x=1 !x=2"), name, secret, -1)
		}
	}
}

func TestEnvsOfEachByte(t *testing.T) {
	for c := range 256 {
		b := string([]byte{byte(c)})
		for _, name := range []string{b, "a" + b, b + "a", "abcdefg" + b, "abcdefgh" + b, "a" + b + "a"} {
			is := nameForm.MatchString(name)
			env := []impl.Bind{{Name: name, At: 5}}
			checkEnvOk(t, env, is)
			if is {
				checkBound(t, envOf("q=1"), []string{name}, false, 5, append(envOf("q=1"), env...))
				checkLooked(t, env, name, false, 5)
			} else {
				checkBound(t, envOf("q=1"), []string{name}, false, 5, envOf("q=1"))
				checkLooked(t, env, name, false, -1)
			}
		}
	}
}

func TestBoundOfOrdinaryEnvs(t *testing.T) {
	for _, c := range []struct {
		env    string
		names  string
		secret bool
		from   int64
		want   string
	}{
		// No name, one and several, into an env with none, one and several.
		{"", "", false, 0, ""}, {"", "", true, 5, ""}, {"x=3", "", false, 0, "x=3"}, {"x=3 !y=4", "", true, 7, "x=3 !y=4"},
		{"", "x", false, 0, "x=0"}, {"", "x", true, 0, "!x=0"}, {"", "x", false, 7, "x=7"}, {"x=3", "y", false, 9, "x=3 y=9"}, {"x=3", "y", true, 9, "x=3 !y=9"}, {"x=3 y=4 !z=5", "w", false, 0, "x=3 y=4 !z=5 w=0"},
		{"", "x y", false, 3, "x=3 y=4"}, {"", "y x", false, 3, "y=3 x=4"}, {"", "a b c d", true, 10, "!a=10 !b=11 !c=12 !d=13"}, {"x=3", "a b c", false, 1, "x=3 a=1 b=2 c=3"}, {"x=3 !y=4", "c b a", true, 98, "x=3 !y=4 !c=98 !b=99 !a=100"},
		// A name that is there, both ways; what stood there stays.
		{"x=3", "x", false, 9, "x=3 x=9"}, {"x=3", "x", false, 3, "x=3 x=3"}, {"x=3", "x", true, 9, "x=3 !x=9"}, {"!x=3", "x", false, 9, "!x=3 x=9"}, {"!x=3", "x", true, 0, "!x=3 !x=0"}, {"y=9 x=3 !x=4", "x y", false, 5, "y=9 x=3 !x=4 x=5 y=6"}, {"x=8 x=8 x=8", "x", false, 1, "x=8 x=8 x=8 x=1"},
		// One name twice and more.
		{"", "x x", false, 3, "x=3 x=4"}, {"", "x x x", true, 0, "!x=0 !x=1 !x=2"}, {"x=3", "x y x", false, 5, "x=3 x=5 y=6 x=7"}, {"x=9", "x x", true, 7, "x=9 !x=7 !x=8"},
		// Words that stand first in forms are names as any other.
		{"let=3", "none let fn", false, 5, "let=3 none=5 let=6 fn=7"},
	} {
		checkBound(t, envOf(c.env), strings.Fields(c.names), c.secret, c.from, envOf(c.want))
	}
}

// The last At may be the greatest one there is, and no more.
func TestBoundFromItsEdges(t *testing.T) {
	for _, words := range []string{"", "x=3", "x=0 !y=1000000000"} {
		env := envOf(words)
		for _, secret := range []bool{false, true} {
			for _, c := range []struct {
				from  int64
				right int
			}{
				// With as many names as right and no more it is bound.
				{0, 300}, {1, 300}, {lastAt - 299, 300}, {lastAt - 298, 299}, {lastAt - 2, 3}, {lastAt - 1, 2}, {lastAt, 1}, {lastAt + 1, 0}, {lastAt + 2, 0}, {-1, 0}, {-2, 0}, {-3, 0}, {-300, 0}, {math.MinInt64, 0}, {math.MinInt64 + 1, 0}, {math.MaxInt64, 0}, {math.MaxInt64 - 1, 0}, {math.MaxInt64 - 2, 0}, {math.MaxInt64 - lastAt, 0}, {1 << 32, 0}, {-1 << 32, 0}, {1<<32 + 5, 0},
			} {
				for _, count := range []int{0, 1, 2, 3, 4, 299, 300} {
					names := manyNames(count)
					want := slices.Clone(env)
					if count <= c.right {
						for n, name := range names {
							want = append(want, impl.Bind{Name: name, Secret: secret, At: c.from + int64(n)})
						}
					}
					checkBound(t, env, names, secret, c.from, want)
				}
			}
		}
	}
}

func TestBoundUpToItsLimit(t *testing.T) {
	for _, c := range []struct {
		env, names int
		want       int
	}{
		{0, 0, 0}, {0, 399, 399}, {0, 400, 400}, {0, 401, 0}, {1, 398, 399}, {1, 399, 400}, {1, 400, 1}, {200, 200, 400}, {200, 201, 200}, {200, 199, 399}, {398, 2, 400}, {398, 3, 398}, {399, 0, 399}, {399, 1, 400}, {399, 2, 399}, {399, 100, 399}, {400, 0, 400}, {400, 1, 400}, {400, 2, 400}, {400, 400, 400}, {5, 1 << 20, 5},
		{401, 0, 0}, {401, 1, 0}, {402, 0, 0}, {1000, 3, 0},
	} {
		for _, secret := range []bool{false, true} {
			env, names := bindsOf(c.env), manyNames(c.names)
			want := env
			if c.env > 400 {
				want = nil
			}
			if c.want > c.env {
				for n, name := range names {
					want = append(want, impl.Bind{Name: name, Secret: secret, At: 7 + int64(n)})
				}
			}
			if len(want) != c.want {
				t.Fatalf("the test itself is wrong: %d", len(want))
			}
			checkBound(t, env, names, secret, 7, want)
		}
	}
}

// One that is no name, wherever it is, leaves the env as it is.
func TestBoundOfWhatIsNoName(t *testing.T) {
	for _, no := range noNames() {
		for _, names := range [][]string{{no}, {no, "a", "b"}, {"a", no, "b"}, {"a", "b", no}, {no, no}, {"x", no, "x"}} {
			for _, env := range [][]impl.Bind{nil, envOf("x=3"), envOf("x=3 !x=4 y=5"), bindsOf(397), bindsOf(400)} {
				for _, from := range []int64{0, lastAt - 1, -1} {
					checkBound(t, env, names, from == 0, from, env)
				}
			}
		}
	}
	long := manyNames(200)
	for _, at := range []int{0, 100, 199} {
		names := slices.Clone(long)
		names[at] = "X"
		checkBound(t, envOf("x=3"), names, false, 0, envOf("x=3"))
	}
}

// Of an env that is wrong nothing comes, whatever the names are.
func TestBoundOfWrongEnvs(t *testing.T) {
	for _, env := range wrongEnvs() {
		for _, names := range [][]string{nil, {"x"}, {"x", "y", "z"}, {"X"}, {""}} {
			for _, from := range []int64{0, 5, -1, lastAt + 1} {
				checkBound(t, env, names, from == 5, from, nil)
			}
		}
	}
}

func TestLookedOfOrdinaryEnvs(t *testing.T) {
	for _, c := range []struct {
		env    string
		name   string
		open   int64
		secret int64
	}{
		{"", "x", -1, -1}, {"x=3", "x", 3, -1}, {"!x=3", "x", -1, 3}, {"x=0", "x", 0, -1}, {"!x=0", "x", -1, 0}, {"x=1000000000", "x", 1000000000, -1}, {"x=3", "y", -1, -1},
		// Once, twice and many times: the last one, be it the least or the greatest.
		{"x=3 x=9", "x", 9, -1}, {"x=9 x=3", "x", 3, -1}, {"x=9 x=0", "x", 0, -1}, {"x=5 x=9 x=3 x=7 x=6", "x", 6, -1}, {"!x=5 !x=9 !x=3", "x", -1, 3}, {"x=3 x=3", "x", 3, -1},
		// A Secret one is another one than one that is not.
		{"x=3 !x=9", "x", 3, 9}, {"!x=9 x=3", "x", 3, 9}, {"x=3 !x=9 x=4 !x=8", "x", 4, 8}, {"!x=8 !x=9 x=4", "x", 4, 9}, {"x=4 !x=8 !x=9", "x", 4, 9}, {"x=1 !x=1", "x", 1, 1},
		// One among others, at the first place, in the middle and at the last one.
		{"x=1 y=2 z=3", "x", 1, -1}, {"x=1 y=2 z=3", "y", 2, -1}, {"x=1 y=2 z=3", "z", 3, -1}, {"x=1 y=2 z=3", "w", -1, -1}, {"!x=1 y=2 !z=3", "x", -1, 1}, {"!x=1 y=2 !z=3", "y", 2, -1}, {"!x=1 y=2 !z=3", "z", -1, 3}, {"x=1 y=2 x=3 y=4", "x", 3, -1}, {"x=1 y=2 x=3 y=4", "y", 4, -1},
		// Names that begin, or end, as others do.
		{"x=1 xx=2 xxx=3", "xx", 2, -1}, {"x=1 xx=2 xxx=3", "x", 1, -1}, {"xx=2", "x", -1, -1}, {"x=2", "xx", -1, -1}, {"ax=2 xa=3", "x", -1, -1}, {"v1=1 v10=2 v01=3", "v1", 1, -1}, {"abcdefgh=1 abcdefg=2", "abcdefgh", 1, -1},
		{"none=1 let=2", "none", 1, -1}, {"none=1 !let=2", "let", -1, 2},
		// What is no name.
		{"x=1 !x=2", "", -1, -1}, {"x=1 !x=2", "X", -1, -1}, {"x=1 !x=2", "x ", -1, -1}, {"x=1 !x=2", " x", -1, -1}, {"x=1 !x=2", "'x'", -1, -1}, {"x=1 !x=2", "!x", -1, -1}, {"x=1", "x=1", -1, -1}, {"x=1", "x\x00", -1, -1}, {"abcdefgh=1", "abcdefghi", -1, -1}, {"x=1", "1", -1, -1}, {"", "", -1, -1},
	} {
		checkLooked(t, envOf(c.env), c.name, false, c.open)
		checkLooked(t, envOf(c.env), c.name, true, c.secret)
	}
}

func TestLookedAtItsEdges(t *testing.T) {
	for _, count := range []int{1, 2, 398, 399, 400} {
		env := bindsOf(count)
		for n, b := range env {
			checkLooked(t, env, b.Name, b.Secret, 1000+int64(n))
			checkLooked(t, env, b.Name, !b.Secret, -1)
		}
		checkLooked(t, env, nameOfPlace(int64(count)), false, -1)
		same := manyOf(count, func(n int64) impl.Bind { return impl.Bind{Name: "x", Secret: n%2 == 1, At: n} })
		checkLooked(t, same, "x", (count-1)%2 == 1, int64(count-1))
		checkLooked(t, same, "x", (count-1)%2 == 0, int64(count-2))
	}
	for _, at := range rightAts() {
		checkLooked(t, []impl.Bind{{Name: "x", At: at}}, "x", false, at)
		checkLooked(t, []impl.Bind{{Name: "x", Secret: true, At: at}}, "x", true, at)
	}
}

// In an env that is wrong nobody is looked up, not even one that is right.
func TestLookedOfWrongEnvs(t *testing.T) {
	for _, env := range wrongEnvs() {
		for _, secret := range []bool{false, true} {
			for _, name := range []string{"x", "y", "z", "n0", "n5", "", "X", env[0].Name, env[len(env)-1].Name} {
				checkLooked(t, env, name, secret, -1)
			}
		}
	}
}

// Every env of at most four out of some Binds, right ones and wrong ones.
func TestEveryEnvOfFewBinds(t *testing.T) {
	some := append(envOf("x=0 x=7 !x=1 y=1000000000 !y=2"), impl.Bind{Name: "X", At: 3}, impl.Bind{Name: "y", At: -1})
	envs := [][]impl.Bind{nil}
	for from := 0; len(envs[from]) < 4; from++ {
		for _, b := range some {
			envs = append(envs, append(slices.Clone(envs[from]), b))
		}
	}
	if len(envs) != 1+7+49+343+2401 {
		t.Fatalf("the test itself is wrong: %d envs", len(envs))
	}
	for _, env := range envs {
		checkWhoIsWho(t, env)
	}
}

// Promise 9: the last one of a name is looked up, and all others are who they
// were.
func checkPromiseNine(t *testing.T, env []impl.Bind, names []string, secret bool, from int64) []impl.Bind {
	t.Helper()
	bound := impl.Bound(env, names, secret, from)
	if len(bound) != len(env)+len(names) || !impl.EnvOk(bound) || !slices.Equal(bound[:len(env)], env) {
		t.Fatalf("%s with %s is %s", showEnv(env), shortList(names), showEnv(bound))
	}
	last := map[string]int64{}
	for n, name := range names {
		last[name] = from + int64(n)
	}
	for name, at := range last {
		if got := impl.Looked(bound, name, secret); got != at {
			t.Errorf("%s: %s, %v is %d; want %d", showEnv(bound), name, secret, got, at)
		}
	}
	for _, name := range slices.Concat(askedNames(env), names) {
		for _, other := range []bool{false, true} {
			if _, is := last[name]; is && other == secret {
				continue
			}
			if was, is := impl.Looked(env, name, other), impl.Looked(bound, name, other); was != is {
				t.Errorf("%s with %s: %s, %v was %d, is %d", showEnv(env), shortList(names), name, other, was, is)
			}
		}
	}
	return bound
}

func TestPromiseNineOfManyEnvs(t *testing.T) {
	for _, env := range rightEnvs() {
		for _, names := range [][]string{nil, {"x"}, {"y"}, {"x", "y"}, {"x", "x"}, {"x", "y", "x"}, {"none"}, {"n0", "n2", "n5"}, {"w"}} {
			for _, secret := range []bool{false, true} {
				for _, from := range []int64{0, lastAt - 2} {
					if len(env)+len(names) <= 400 {
						checkPromiseNine(t, env, names, secret, from)
					}
				}
			}
		}
	}
}

// From nobody on until there is no room, name by name and several at once.
func TestPromiseNineUntilThereIsNoRoom(t *testing.T) {
	for _, step := range []int{1, 3, 40, 400} {
		env := []impl.Bind{}
		for round := 0; len(env)+step <= 400; round++ {
			names := manyOf(step, func(n int64) string { return nameOfPlace((n*7 + int64(round)) % 11) })
			env = checkPromiseNine(t, env, names, round%2 == 1, int64(round*1000%7919))
		}
		full := impl.Bound(env, manyNames(401-len(env)), false, 0)
		if !slices.Equal(full, env) {
			t.Errorf("%d at once: %s, and then %s", step, showEnv(env), showEnv(full))
		}
	}
}

// To bind names one by one, or all at once, is the same.
func TestBoundOneByOne(t *testing.T) {
	names := []string{"x", "y", "x", "z", "none", "x"}
	for _, env := range rightEnvs() {
		if len(env)+len(names) > 400 {
			continue
		}
		for _, secret := range []bool{false, true} {
			single := env
			for n, name := range names {
				single = impl.Bound(single, []string{name}, secret, 20+int64(n))
			}
			if whole := impl.Bound(env, names, secret, 20); !slices.Equal(single, whole) {
				t.Errorf("%s; all at once %s", showEnv(single), showEnv(whole))
			}
		}
	}
}

// Promise 21, for the functions of chapter 9, from here on.
func roomyEnv(env []impl.Bind) ([]impl.Bind, []impl.Bind) {
	room := append(slices.Clone(env), envOf("spare=1 !spare=2 spare=3 x=4")...)
	return room[:len(env)], room
}

// givenEnvs are those at which what is shared would show; most of those that
// are wrong are wrong alike.
func givenEnvs() [][]impl.Bind {
	return append(rightEnvs(), bindsOf(401), envOf("x=3 X=4"), envOf("X=3 x=4"), envOf("x=-1"), envOf("x=3 !y=1000000001 z=5"), envOf("=3"))
}

func givenNames() [][]string {
	return [][]string{nil, {}, {"x"}, {"x", "y", "x"}, {"X"}, {"x", "X"}, {"X", "x"}, {""}, manyNames(395), manyNames(401)}
}

func TestEnvsLeaveWhatIsGiven(t *testing.T) {
	for _, given := range givenEnvs() {
		for _, l := range givenNames() {
			env, room := roomyEnv(given)
			names, namesRoom := roomy(l)
			was, namesWas := slices.Clone(room), slices.Clone(namesRoom)
			left := func() bool { return slices.Equal(room, was) && slices.Equal(namesRoom, namesWas) }
			for _, from := range []int64{0, -1, lastAt, math.MaxInt64} {
				answer := impl.Bound(env, names, from == 0, from)
				kept := slices.Clone(answer)
				other := impl.Bound(env, names, from == 0, from)
				mark(other, impl.Bind{Name: "over", At: 9})
				if !left() || !slices.Equal(answer, kept) {
					t.Fatalf("%s, %s, %d: an answer shares memory with another one, or with what was given", showEnv(env), shortList(names), from)
				}
				if again := impl.Bound(env, names, from == 0, from); !slices.Equal(again, kept) {
					t.Fatalf("%s, and again %s", showEnv(kept), showEnv(again))
				}
				mark(env, impl.Bind{Name: "over", At: 9})
				overwritten(names)
				if !slices.Equal(answer, kept) {
					t.Fatalf("%s became %s", showEnv(kept), showEnv(answer))
				}
				copy(room, was)
				copy(namesRoom, namesWas)
			}
			impl.EnvOk(env)
			for _, name := range []string{"x", "spare", "X", ""} {
				impl.Looked(env, name, true)
				impl.Looked(env, name, false)
			}
			if !left() {
				t.Fatalf("%s became %s", showEnv(was), showEnv(room))
			}
		}
	}
}

// What comes of an env may be bound in two ways: none is put into the other.
func TestBoundOfItsOwnAnswers(t *testing.T) {
	for _, count := range []int{0, 1, 2, 3, 5, 8, 100} {
		env := impl.Bound(bindsOf(count), []string{"a", "b"}, false, 0)
		one := impl.Bound(env, []string{"c"}, false, 7)
		two := impl.Bound(env, []string{"d"}, true, 8)
		none := impl.Bound(env, []string{"D"}, true, 8)
		three := impl.Bound(none, []string{"e"}, false, 9)
		base := append(bindsOf(count), envOf("a=0 b=1")...)
		for _, c := range []struct{ got, want []impl.Bind }{{env, base}, {one, slices.Concat(base, envOf("c=7"))}, {two, slices.Concat(base, envOf("!d=8"))}, {none, base}, {three, slices.Concat(base, envOf("e=9"))}} {
			if !slices.Equal(c.got, c.want) {
				t.Errorf("%s; want %s", showEnv(c.got), showEnv(c.want))
			}
		}
	}
}

// What stands in the spare room behind a list is no part of it, be it right or
// wrong.
func TestEnvsDoNotReadTheSpareRoom(t *testing.T) {
	whole := append(envOf("x=1 !x=2 y=3 x=4 !y=5"), impl.Bind{Name: "X"}, impl.Bind{Name: "x", At: -1})
	for n := range len(whole) + 1 {
		checkWhoIsWho(t, whole[:n])
	}
	checkLooked(t, whole[:3], "x", false, 1)
	checkLooked(t, whole[:4], "x", false, 4)
	many := bindsOf(500)
	checkEnvOk(t, many[:400], true)
	checkEnvOk(t, many[:401], false)
	names := []string{"a", "b", "C", ""}
	checkBound(t, whole[:1], names[:2], false, 0, envOf("x=1 a=0 b=1"))
	checkBound(t, whole[:1], names[:3], false, 0, envOf("x=1"))
}

// What is asked again is answered again, whatever was asked between.
func TestEnvsKeepNothing(t *testing.T) {
	envs := givenEnvs()
	for range 2 {
		for _, env := range envs {
			checkWhoIsWho(t, env)
		}
		slices.Reverse(envs)
	}
}

// The line "env" of the document's chapter Ways: a struct embeds what tells who
// is known, and has one of its methods at least as the outer one has it.
func TestAnEnvEmbedsItsOuterOne(t *testing.T) {
	path := "../impl/l09_env.go"
	methods, own := map[string]int{}, map[string]int{}
	hasNode(t, path, func(n ast.Node) bool {
		switch x := n.(type) {
		case *ast.TypeSpec:
			if face, is := x.Type.(*ast.InterfaceType); is {
				methods[x.Name.Name] = len(face.Methods.List)
			}
		case *ast.FuncDecl:
			if x.Recv != nil {
				if of, is := x.Recv.List[0].Type.(*ast.Ident); is {
					own[of.Name]++
				}
			}
		}
		return false
	})
	embeds := hasNode(t, path, func(n ast.Node) bool {
		spec, is := n.(*ast.TypeSpec)
		if !is {
			return false
		}
		fields, is := spec.Type.(*ast.StructType)
		return is && slices.ContainsFunc(fields.Fields.List, func(f *ast.Field) bool {
			outer, is := f.Type.(*ast.Ident)
			return is && len(f.Names) == 0 && own[spec.Name.Name] < methods[outer.Name]
		})
	})
	if !embeds {
		t.Error("no env embeds its outer one in the layer of who is who")
	}
}
