package tests

import (
	"go/ast"
	"math"
	"slices"
	"strings"
	"testing"

	"loop.example/g00544/impl"
)

// A freshCase is a list with blanks between its texts, and from where on which
// one is fresh.
type freshCase struct {
	list string
	from int64
	want string
}

func checkFresh(t *testing.T, cases []freshCase) {
	t.Helper()
	for _, c := range cases {
		if got := impl.Fresh(strings.Fields(c.list), c.from); got != c.want {
			t.Errorf("Fresh(%s, %d) is %q; want %q", c.list, c.from, got, c.want)
		}
	}
}

func TestNamesIn(t *testing.T) {
	checkNames(t, impl.NamesIn, []namesCase{
		// A play, and no play; a name once, twice and often.
		{"", ""}, {"(let a 1)", "a let"}, {"(let a b) (set a 2)", "a b let set"}, {"(say (+ b (- b (* b (< b (= b (& b b)))))))", "b say"},
		{"a", "a"}, {"a a", "a"}, {"a a a a a a a a", "a"}, {"a b a b a b", "a b"}, {"b a", "a b"}, {"( a", "a"}, {") b ( a )", "a b"}, {"let let let", "let"},
		// As texts, not as they stand in the list, and not by their length.
		{"c b a", "a b c"}, {"a b c", "a b c"}, {"b c a c b a", "a b c"}, {"v2 v10 b aa a", "a aa b v10 v2"}, {"v2 b v10 aa a v2 v10", "a aa b v10 v2"},
		{"zz z aaaaaaaa b9 b10 b ba a0 az a", "a a0 aaaaaaaa az b b10 b9 ba z zz"}, {"v9 v10 v1 v100 v01 v v00", "v v00 v01 v1 v10 v100 v9"}, {"abcdefgh abcdefg abcdefga", "abcdefg abcdefga abcdefgh"},
		// Words that stand first in forms, and none, are names as any other.
		{"none", "none"}, {"(say none)", "none say"}, {"(vars given) (hput p none 'x')", "given hput none p vars"}, {"(run (fn ((a 1)) (do) (leave)))", "a do fn leave run"},
		{strings.Join(reservedWords(), " "), "back call do fn for get hget hidden hput if join leave let next none put run say set table take tget thing tput vars while"},
		// All else is none.
		{"5 -5 0 'a' 'none' '' ' ' ( ) + - * < = &", ""}, {"(say 'v0') (say 'b c') (say d)", "d say"}, {"(say (& 'a' 1))", "say"},
	})
}

func TestNamesOfEachSign(t *testing.T) {
	for _, name := range slices.Concat(rightNames(), reservedWords()) {
		for _, l := range [][]string{{name}, {"(", name}, {name, name}, {"'" + name + "'", name, "5"}} {
			if got := impl.NamesIn(l); !slices.Equal(got, []string{name}) {
				t.Errorf("NamesIn(%q) is %q", l, got)
			}
		}
	}
	for _, sign := range rightSigns() {
		if nameForm.MatchString(sign) {
			continue
		}
		if got := impl.NamesIn([]string{sign, "q", sign}); !slices.Equal(got, []string{"q"}) {
			t.Errorf("with %q: %q", sign, got)
		}
	}
}

// The names in whatever order they stand in the list.
func TestNamesInWhateverOrder(t *testing.T) {
	want := []string{"a", "aa", "b", "none", "v10", "v2"}
	var check func(ahead []string, left []string)
	check = func(ahead []string, left []string) {
		if len(left) == 0 {
			checkAllFresh(t, ahead)
			return
		}
		for n := range left {
			check(append(slices.Clone(ahead), left[n]), slices.Delete(slices.Clone(left), n, n+1))
		}
	}
	check(nil, want)
	check(nil, []string{"v0", "v1", "v0", "b", "v3", "b", "5"})
}

func TestFreshOfOrdinaryLists(t *testing.T) {
	checkFresh(t, []freshCase{
		// No name is v and a number.
		{"", 0, "v0"}, {"", 1, "v1"}, {"", 7, "v7"}, {"", 10, "v10"}, {"( say a )", 0, "v0"}, {"a b v w vv va v0a", 0, "v0"}, {"a b v w vv va v0a", 12, "v12"}, {"u0 w0 x0 av0", 0, "v0"}, {"none let fn", 3, "v3"},
		// v0 is there; once, twice, and not where it matters.
		{"v0", 0, "v1"}, {"v0 v0 v0", 0, "v1"}, {"( let v0 1 )", 0, "v1"}, {"v0", 1, "v1"}, {"v0", 5, "v5"}, {"v1", 0, "v0"}, {"v1", 1, "v2"}, {"v1", 2, "v2"},
		// v0 to v9 without a gap.
		{"v0 v1 v2 v3 v4 v5 v6 v7 v8 v9", 0, "v10"}, {"v9 v8 v7 v6 v5 v4 v3 v2 v1 v0", 0, "v10"}, {"v0 v1 v2 v3 v4 v5 v6 v7 v8 v9", 9, "v10"}, {"v0 v1 v2 v3 v4 v5 v6 v7 v8 v9", 10, "v10"}, {"v0 v1 v2 v3 v4 v5 v6 v7 v8 v9", 11, "v11"}, {"v5 v3 v1 v0 v2 v4 v9 v7 v8 v6 v10", 4, "v11"},
		// With one, n at, ahead of and behind it.
		{"v0 v1 v2 v3 v4 v6 v7 v8 v9", 0, "v5"}, {"v0 v1 v2 v3 v4 v6 v7 v8 v9", 4, "v5"}, {"v0 v1 v2 v3 v4 v6 v7 v8 v9", 5, "v5"}, {"v0 v1 v2 v3 v4 v6 v7 v8 v9", 6, "v10"}, {"v0 v1 v2 v3 v4 v6 v7 v8 v9", 9, "v10"}, {"v0 v1 v2 v3 v4 v6 v7 v8 v9", 10, "v10"}, {"v0 v1 v2 v3 v4 v6 v7 v8 v9", 11, "v11"},
		{"v9 v6 v0 v8 v1 v4 v7 v2 v3 v6 v0", 0, "v5"}, {"v9 v6 v0 v8 v1 v4 v7 v2 v3 v6 v0", 6, "v10"},
		// Gaps of several, and several gaps.
		{"v0 v1 v4 v5 v7", 0, "v2"}, {"v0 v1 v4 v5 v7", 2, "v2"}, {"v0 v1 v4 v5 v7", 3, "v3"}, {"v0 v1 v4 v5 v7", 4, "v6"}, {"v0 v1 v4 v5 v7", 6, "v6"}, {"v0 v1 v4 v5 v7", 7, "v8"},
		// v10 and v100 but not v1.
		{"v10 v100", 0, "v0"}, {"v10 v100", 1, "v1"}, {"v0 v10 v100", 0, "v1"}, {"v0 v10 v100", 1, "v1"}, {"v10 v100", 9, "v9"}, {"v10 v100", 10, "v11"}, {"v10 v100", 99, "v99"}, {"v10 v100", 100, "v101"}, {"v1000 v0", 0, "v1"},
		{"v9 v10 v11", 9, "v12"}, {"v99 v100", 99, "v101"}, {"v999 v1000 v1001", 998, "v998"}, {"v999 v1000 v1001", 999, "v1002"},
	})
}

func TestFreshAtItsEdges(t *testing.T) {
	checkFresh(t, []freshCase{
		{"", 0, "v0"}, {"", 99999, "v99999"}, {"", 99998, "v99998"}, {"", -1, ""}, {"", 100000, ""}, {"", math.MinInt64, ""}, {"", math.MaxInt64, ""}, {"", math.MinInt64 + 1, ""}, {"", math.MaxInt64 - 1, ""}, {"", 1 << 32, ""}, {"", -1 << 32, ""}, {"", 1<<32 + 5, ""},
		{"v0 a", -1, ""}, {"v0 a", 100000, ""}, {"v100000", 100000, ""},
		// The least number goes on past the greatest n.
		{"v99999", 99999, "v100000"}, {"v99999", 99998, "v99998"}, {"v99998 v99999", 99998, "v100000"}, {"v100000", 99999, "v99999"}, {"v99999 v100000 v100001", 99999, "v100002"}, {"v100000 v99999 v100002", 99999, "v100001"}, {"v99999 v1000000 v9999999", 99999, "v100000"},
		// Noughts ahead: a name, but not v and a number.
		{"v00 v01 v007", 0, "v0"}, {"v00 v01 v007", 1, "v1"}, {"v00 v01 v007", 7, "v7"}, {"v0 v00 v01 v007", 0, "v1"}, {"v0 v00 v01 v02", 0, "v1"}, {"v000", 0, "v0"}, {"v010", 10, "v10"}, {"v0000001", 1, "v1"},
		// A text is no name, nor is what is too long.
		{"'v0'", 0, "v0"}, {"'v0' v0 'v1'", 0, "v1"}, {"v10000000", 0, "v0"}, {"v000000000", 0, "v0"}, {"v-1 v+0 V0 v0. 0 -0 1", 0, "v0"},
	})
	// As many as it takes.
	for _, to := range []int64{0, 1, 9, 10, 99, 100, 999, 1000, 12345} {
		l := vNumbers(0, to)
		slices.Reverse(l)
		for _, from := range []int64{0, 1, to / 2, to, to + 1} {
			if got, want := impl.Fresh(l, from), vNumber(max(from, to+1)); got != want {
				t.Errorf("v0 to v%d, from %d: %s; want %s", to, from, got, want)
			}
		}
	}
	if got := impl.Fresh(vNumbers(99990, 110000), 99999); got != "v110001" {
		t.Errorf("v99990 to v110000, from 99999: %s", got)
	}
}

// Names of 8 bytes are the longest, v and a number of 7 digits among them.
func TestNamesOfEightBytesAndNine(t *testing.T) {
	l := []string{"v12345678", "v1234567", "abcdefghi", "abcdefgh", "v9999999", "v10000000", "a1234567", "a12345678", "zzzzzzzz", "zzzzzzzzz"}
	if got, want := impl.NamesIn(l), []string{"a1234567", "abcdefgh", "v1234567", "v9999999", "zzzzzzzz"}; !slices.Equal(got, want) {
		t.Errorf("%q; want %q", got, want)
	}
}

// A manyCase is a list with blanks between its texts, and how many are which.
type manyCase struct {
	list string
	many int64
	want string
}

func TestFreshMany(t *testing.T) {
	for _, c := range []manyCase{
		{"", 0, ""}, {"", 1, "v0"}, {"", 3, "v0 v1 v2"}, {"( say a )", 12, "v0 v1 v2 v3 v4 v5 v6 v7 v8 v9 v10 v11"},
		// One of them is in the list.
		{"v0", 0, ""}, {"v0", 1, "v1"}, {"v0", 3, "v1 v2 v3"}, {"v1", 1, "v0"}, {"v1", 3, "v0 v2 v3"}, {"v2", 2, "v0 v1"}, {"v2", 3, "v0 v1 v3"}, {"v3", 3, "v0 v1 v2"}, {"v1 v1 v1", 2, "v0 v2"},
		// Several.
		{"v0 ( x v2 'v1' 5", 3, "v1 v3 v4"}, {"v0 v1 v2", 2, "v3 v4"}, {"v3 v1", 4, "v0 v2 v4 v5"}, {"v10 v1 v2 v9", 9, "v0 v3 v4 v5 v6 v7 v8 v11 v12"}, {"v10 v100", 3, "v0 v1 v2"}, {"v8 v9 v10 v11", 10, "v0 v1 v2 v3 v4 v5 v6 v7 v12 v13"},
		// None that counts.
		{"v00 v01 v002", 3, "v0 v1 v2"}, {"'v0' 'v1'", 2, "v0 v1"}, {"v v0a u0 v99999", 2, "v0 v1"}, {"none let", 1, "v0"},
		// Out of range.
		{"", -1, ""}, {"", 201, ""}, {"v0", -1, ""}, {"v0", 201, ""}, {"a", 202, ""}, {"a", math.MaxInt64, ""}, {"a", math.MinInt64, ""}, {"a", 1 << 32, ""}, {"a", 1<<32 + 3, ""}, {"a", -1 << 32, ""},
	} {
		if got := impl.FreshMany(strings.Fields(c.list), c.many); !slices.Equal(got, strings.Fields(c.want)) {
			t.Errorf("FreshMany(%s, %d) is %q; want %q", c.list, c.many, got, c.want)
		}
	}
}

func TestFreshManyUpToTheMost(t *testing.T) {
	for n := int64(-3); n <= 205; n++ {
		want := vNumbers(0, n-1)
		if n < 0 || n > 200 {
			want = nil
		}
		for _, l := range [][]string{nil, {"(", "say", "a", ")"}, {"v200", "v00", "v"}} {
			if got := impl.FreshMany(l, n); !slices.Equal(got, want) {
				t.Errorf("FreshMany(%q, %d) is %q", l, n, got)
			}
		}
		if n > 0 && n <= 200 {
			want = vNumbers(1000, 999+n)
		}
		if got := impl.FreshMany(vNumbers(0, 999), n); !slices.Equal(got, want) {
			t.Errorf("FreshMany(v0 to v999, %d) is %q", n, got)
		}
	}
}

// freshLists are lists of all sorts, of which none is long.
func freshLists(t *testing.T) [][]string {
	lists := slices.Concat(itemLists(t), [][]string{nil, {}, rightSigns(), wrongSigns(), reservedWords(), vNumbers(0, 30), vNumbers(5, 250), vNumbers(99990, 100010)})
	for _, page := range slices.Concat(scopePages(), oldPages()) {
		lists = append(lists, signsOf(t, page))
	}
	for _, list := range []string{
		"v0", "v1", "v0 v2 v4 v6", "v1 v3 v5 v7", "v199 v200 v201 v99 v100", "v v0 v00 v000 v01 v1 v10 v11 v100", "'v0' v0 'v1' v2", "v0 v0 v0 v1 v1", "v99999", "v99998 v99999 v100000 v100002",
		"( let v1 ( fn ( v3 ( v0 v1 ) ) ( say v3 ) ) ) ( take ( v2 v9 v10 ) v1 )", "v9999999 v10000000 v1234567 v12345678", "( v0 v1", ") v2 ) v0 (",
	} {
		lists = append(lists, strings.Fields(list))
	}
	gaps := []string{}
	for n, name := range vNumbers(0, 300) {
		if n%3 != 1 {
			gaps = append(gaps, "(", name, "'"+name+"'", "none", ")")
		}
	}
	slices.Reverse(gaps)
	return append(lists, gaps)
}

func freshFroms() []int64 {
	return []int64{0, 1, 2, 5, 9, 10, 99, 100, 199, 250, 99990, 99998, 99999, -1, -2, 100000, 100001, math.MinInt64, math.MaxInt64}
}

func freshCounts() []int64 {
	return []int64{0, 1, 2, 3, 10, 11, 50, 199, 200, -1, 201, 202, math.MinInt64, math.MaxInt64}
}

// checkAllFresh holds all three functions against the slow reading.
func checkAllFresh(t *testing.T, l []string) {
	t.Helper()
	if got, want := impl.NamesIn(l), namesSlowly(l); !slices.Equal(got, want) {
		t.Errorf("NamesIn(%s) is %q; want %q", shortList(l), got, want)
	}
	for _, n := range freshFroms() {
		if got, want := impl.Fresh(l, n), freshSlowly(l, n); got != want {
			t.Errorf("Fresh(%s, %d) is %q; want %q", shortList(l), n, got, want)
		}
	}
	for _, n := range []int64{0, 1, 7, 201} {
		if got, want := impl.FreshMany(l, n), freshManySlowly(l, n); !slices.Equal(got, want) {
			t.Errorf("FreshMany(%s, %d) is %q; want %q", shortList(l), n, got, want)
		}
	}
}

func TestFreshOfLists(t *testing.T) {
	for _, l := range freshLists(t) {
		checkAllFresh(t, l)
	}
}

// All lists of up to five texts out of these.
func TestFreshOfAllShortLists(t *testing.T) {
	texts := []string{"v0", "v1", "v2", "v10", "'v0'", "("}
	lists := [][]string{{}}
	for range 5 {
		var longer [][]string
		for _, l := range lists {
			for _, text := range texts {
				longer = append(longer, append(slices.Clone(l), text))
			}
		}
		lists = longer
		for _, l := range lists {
			if got, want := impl.NamesIn(l), namesSlowly(l); !slices.Equal(got, want) {
				t.Fatalf("NamesIn(%q) is %q; want %q", l, got, want)
			}
			for _, n := range []int64{0, 1, 2, 3, 10} {
				if got, want := impl.Fresh(l, n), freshSlowly(l, n); got != want {
					t.Fatalf("Fresh(%q, %d) is %q; want %q", l, n, got, want)
				}
			}
			if got, want := impl.FreshMany(l, 4), freshManySlowly(l, 4); !slices.Equal(got, want) {
				t.Fatalf("FreshMany(%q, 4) is %q; want %q", l, got, want)
			}
		}
	}
}

// Promise 7.
func TestNobodyHasAFreshName(t *testing.T) {
	for _, l := range freshLists(t) {
		names := impl.NamesIn(l)
		if !rises(names) {
			t.Errorf("%s: %q do not rise", shortList(l), names)
		}
		for _, n := range freshFroms() {
			fresh := impl.Fresh(l, n)
			if n < 0 || n > 99999 {
				if fresh != "" {
					t.Errorf("Fresh(%s, %d) is %q", shortList(l), n, fresh)
				}
				continue
			}
			if slices.Contains(names, fresh) || slices.Contains(l, fresh) || !impl.NameOk(fresh) || impl.Reserved(fresh) {
				t.Errorf("Fresh(%s, %d) is %q, which somebody has, or which is no name", shortList(l), n, fresh)
			}
			if other := impl.Fresh(append(slices.Clone(l), fresh), n); other == fresh || other == "" {
				t.Errorf("with %s: %q is fresh no more", fresh, other)
			}
		}
		for _, n := range freshCounts() {
			checkPromiseSeven(t, l, n)
		}
	}
}

func checkPromiseSeven(t *testing.T, l []string, n int64) {
	t.Helper()
	many := impl.FreshMany(l, n)
	if n < 0 || n > 200 {
		if len(many) > 0 {
			t.Errorf("FreshMany(%s, %d) is %q", shortList(l), n, many)
		}
		return
	}
	if int64(len(many)) != n || hasTwice(many) {
		t.Errorf("FreshMany(%s, %d) are %d, or two are alike: %q", shortList(l), n, len(many), many)
	}
	names, from := impl.NamesIn(l), int64(0)
	for _, fresh := range many {
		if slices.Contains(names, fresh) || slices.Contains(l, fresh) || !impl.NameOk(fresh) {
			t.Errorf("FreshMany(%s, %d) has %q, which somebody has, or which is no name", shortList(l), n, fresh)
		}
		// Each is the Fresh one from behind the one before it.
		if want := impl.Fresh(l, from); fresh != want {
			t.Errorf("FreshMany(%s, %d) has %q; Fresh from %d on is %q", shortList(l), n, fresh, from, want)
		}
		number, is := impl.ReadNumber(strings.TrimPrefix(fresh, "v"))
		if !is || number < from {
			t.Fatalf("FreshMany(%s, %d) has %q behind %d", shortList(l), n, fresh, from-1)
		}
		from = number + 1
	}
}

// Texts that are no signs are no names, and all else is told as ever.
func TestFreshWithTextsThatAreNoSigns(t *testing.T) {
	wrong := append(wrongSigns(), "v0 ", " v0", "v0\n", "v0\x00", "v\x80", "v\xff0", "v0\xc3\xa9", "V0", "v0'", "'v0", "v_0", "v 0", "v-1", "(v0)", "v00000000", strings.Repeat("v", 9), strings.Repeat("v0", 100000), strings.Repeat("v", 1<<20), strings.Repeat("\xff", 1000))
	for _, text := range wrong {
		for _, l := range [][]string{{text}, {text, text, "(", text}, {text, "v1", "b", "v0", "a"}, {"v1", "b", text, "v0", "a"}, {"v1", "b", "v0", "a", text}, {"v1", text, "b", text, "v0", text, "a", text, "b"}} {
			rest := slices.DeleteFunc(slices.Clone(l), func(sign string) bool { return sign == text })
			if got, want := impl.NamesIn(l), namesSlowly(rest); !slices.Equal(got, want) {
				t.Errorf("with %q: %q; want %q", short(text), got, want)
			}
			for _, n := range []int64{0, 1, 2, 99999, -1, 100000} {
				if got, want := impl.Fresh(l, n), freshSlowly(rest, n); got != want {
					t.Errorf("with %q, from %d: %q; want %q", short(text), n, got, want)
				}
			}
			for _, n := range []int64{0, 1, 5, -1, 201} {
				if got, want := impl.FreshMany(l, n), freshManySlowly(rest, n); !slices.Equal(got, want) {
					t.Errorf("with %q, %d: %q; want %q", short(text), n, got, want)
				}
			}
		}
	}
	if got := impl.NamesIn(wrongSigns()); len(got) > 0 {
		t.Errorf("%q", got)
	}
}

// One text of each length, with each byte at each place of it.
func TestFreshWithEachByte(t *testing.T) {
	for c := range 256 {
		for length := 1; length <= 9; length++ {
			for at := range length {
				text := []byte(strings.Repeat("v", length))
				text[at] = byte(c)
				l := []string{string(text), "v1", "v"}
				if got, want := impl.NamesIn(l), namesSlowly(l); !slices.Equal(got, want) {
					t.Errorf("NamesIn(%q) is %q; want %q", l, got, want)
				}
				if got, want := impl.FreshMany(l, 3), freshManySlowly(l, 3); !slices.Equal(got, want) {
					t.Errorf("FreshMany(%q, 3) is %q; want %q", l, got, want)
				}
			}
		}
	}
}

func TestFreshOfNothing(t *testing.T) {
	for _, l := range [][]string{nil, {}} {
		if got := impl.NamesIn(l); len(got) > 0 {
			t.Errorf("%q", got)
		}
		if got := impl.Fresh(l, 0); got != "v0" {
			t.Errorf("%q", got)
		}
		if got := impl.FreshMany(l, 2); !slices.Equal(got, []string{"v0", "v1"}) {
			t.Errorf("%q", got)
		}
		if got := impl.FreshMany(l, 0); len(got) > 0 {
			t.Errorf("%q", got)
		}
	}
}

// What is no play is not refused, however long or deep it is.
func TestFreshOfWhatIsNoPlay(t *testing.T) {
	for _, size := range []int{impl.MaxSigns, impl.MaxSigns + 1, 100000} {
		ones := slices.Repeat([]string{"v0"}, size)
		opened := append(slices.Repeat([]string{"("}, size), "v0", "b")
		closed := append(slices.Repeat([]string{")"}, size), "b", "v0", "b")
		deep := within(size, "( v0", "b", ")")
		wrong := slices.Concat([]string{"v0"}, slices.Repeat([]string{"a b"}, size), []string{"b"})
		for n, l := range [][]string{opened, closed, deep, wrong, append(ones, "b")} {
			if impl.PlayOk(l) {
				t.Fatalf("list %d of %d: the test itself is wrong: a play", n, size)
			}
			if got := impl.NamesIn(l); !slices.Equal(got, []string{"b", "v0"}) {
				t.Errorf("list %d of %d: %q", n, size, got)
			}
			if got := impl.Fresh(l, 0); got != "v1" {
				t.Errorf("list %d of %d: %q", n, size, got)
			}
			if got := impl.FreshMany(l, 200); !slices.Equal(got, vNumbers(1, 200)) {
				t.Errorf("list %d of %d: %q", n, size, got)
			}
		}
	}
}

// Names in their thousands, rising, falling and otherwise, each twice.
func TestFreshOfManyNames(t *testing.T) {
	const size = 120000
	rising := vNumbers(0, size-1)
	falling := slices.Clone(rising)
	slices.Reverse(falling)
	mixed := make([]string, 0, size)
	for n := range int64(size) {
		// 7919 and size have no divisor in common, so that each comes once.
		mixed = append(mixed, vNumber(n*7919%size))
	}
	want := slices.Sorted(slices.Values(rising))
	for n, l := range [][]string{slices.Concat(rising, falling), slices.Concat(falling, mixed), slices.Concat(mixed, mixed)} {
		if got := impl.NamesIn(l); !slices.Equal(got, want) {
			t.Errorf("list %d: %d names", n, len(got))
		}
		if got := []string{impl.Fresh(l, 0), impl.Fresh(l, 99999), impl.Fresh(l, 100000)}; !slices.Equal(got, []string{"v120000", "v120000", ""}) {
			t.Errorf("list %d: %q", n, got)
		}
		if got := impl.FreshMany(l, 200); !slices.Equal(got, vNumbers(size, size+199)) {
			t.Errorf("list %d: %q", n, got)
		}
	}
}

// Promise 21, for the functions of chapter 7, from here on.
func freshCalls() []func([]string) []string {
	out := []func([]string) []string{impl.NamesIn}
	for _, n := range freshCounts() {
		out = append(out, func(l []string) []string { return impl.FreshMany(l, n) })
	}
	return out
}

func TestFreshLeavesWhatIsGiven(t *testing.T) {
	for _, given := range freshLists(t) {
		l, room := roomy(given)
		was := slices.Clone(room)
		for _, call := range freshCalls() {
			answer := call(l)
			kept := slices.Clone(answer)
			if !slices.Equal(room, was) {
				t.Fatalf("%q became %q", was, room)
			}
			other := call(l)
			overwritten(other)
			if !slices.Equal(room, was) || !slices.Equal(answer, kept) {
				t.Fatalf("%s: an answer shares memory with another one, or with what was given", shortList(l))
			}
			if again := call(l); !slices.Equal(again, kept) {
				t.Fatalf("%s: %q, and again %q", shortList(l), kept, again)
			}
		}
		for _, n := range freshFroms() {
			impl.Fresh(l, n)
			if !slices.Equal(room, was) {
				t.Fatalf("%q became %q", was, room)
			}
		}
	}
}

// A list that is itself an answer stays as it is, too.
func TestFreshOfItsOwnAnswers(t *testing.T) {
	l := strings.Fields("v0 v2 b a v10 'v1'")
	names := impl.NamesIn(l)
	many := impl.FreshMany(names, 5)
	if !slices.Equal(impl.NamesIn(names), names) || !slices.Equal(names, strings.Fields("a b v0 v10 v2")) || !slices.Equal(many, strings.Fields("v1 v3 v4 v5 v6")) {
		t.Errorf("%q, %q", names, many)
	}
	if next := impl.FreshMany(slices.Concat(names, many), 5); !slices.Equal(next, strings.Fields("v7 v8 v9 v11 v12")) || !slices.Equal(impl.FreshMany(names, 5), many) {
		t.Errorf("%q", next)
	}
}

// What is asked again is answered again, whatever was asked between.
func TestFreshKeepsNothing(t *testing.T) {
	lists := freshLists(t)
	for range 2 {
		for _, l := range lists {
			checkAllFresh(t, l)
		}
		slices.Reverse(lists)
	}
}

// What stands in the spare room behind a list is no part of it.
func TestFreshDoesNotReadTheSpareRoom(t *testing.T) {
	whole := strings.Fields("v2 v0 a v1 v3 b v4")
	for n := range len(whole) + 1 {
		checkAllFresh(t, whole[:n])
	}
	if got := impl.Fresh(whole[:2], 0); got != "v1" {
		t.Errorf("%q", got)
	}
	if got := impl.NamesIn(whole[:3]); !slices.Equal(got, []string{"a", "v0", "v2"}) {
		t.Errorf("%q", got)
	}
}

// The line "fresh" of the document's chapter Ways.
func TestNamesWaitInAHeap(t *testing.T) {
	path := "../impl/l07_fresh.go"
	imported := hasNode(t, path, func(n ast.Node) bool {
		spec, is := n.(*ast.ImportSpec)
		return is && spec.Path.Value == `"container/heap"`
	})
	if !imported || !hasCallOf(t, path, "heap", "Pop") || !hasCallOf(t, path, "heap", "Push") && !hasCallOf(t, path, "heap", "Init") {
		t.Error("no names wait in a heap in the layer of the fresh names")
	}
}
