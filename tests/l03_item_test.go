package tests

import (
	"fmt"
	"math"
	"slices"
	"strings"
	"testing"

	"loop.example/g00544/impl"
)

// itemSlowly takes the document's words about an item as they stand, an item
// within an item by calling itself: the tests hold the program against this.
// It tells the place behind the item, how deep it is, and where its items begin.
func itemSlowly(l []string, at int64) (end int64, depth int64, within []int64) {
	if at < 0 || at >= int64(len(l)) || l[at] == ")" || !isSign(l[at]) {
		return -1, -1, nil
	}
	if l[at] != "(" {
		return at + 1, 0, nil
	}
	depth = 1
	for place := at + 1; place < int64(len(l)); {
		if l[place] == ")" {
			return place + 1, depth, within
		}
		end, deep, _ := itemSlowly(l, place)
		if end < 0 {
			return -1, -1, nil
		}
		depth = max(depth, deep+1)
		within = append(within, place)
		place = end
	}
	return -1, -1, nil
}

func headSlowly(l []string, at int64) string {
	if _, _, within := itemSlowly(l, at); len(within) > 0 && within[0] == at+1 && l[at+1] != "(" {
		return l[at+1]
	}
	return ""
}

func shortList(l []string) string {
	if len(l) > 30 {
		return fmt.Sprintf("%q .. of %d", l[:30], len(l))
	}
	return fmt.Sprintf("%q", l)
}

func checkItem(t *testing.T, l []string, at int64) {
	t.Helper()
	end, depth, within := itemSlowly(l, at)
	if got := impl.ItemEnd(l, at); got != end {
		t.Errorf("ItemEnd(%s, %d) = %d; want %d", shortList(l), at, got, end)
	}
	if got := impl.DepthOf(l, at); got != depth {
		t.Errorf("DepthOf(%s, %d) = %d; want %d", shortList(l), at, got, depth)
	}
	if got := impl.ItemsIn(l, at); !slices.Equal(got, within) {
		t.Errorf("ItemsIn(%s, %d) = %d; want %d", shortList(l), at, got, within)
	}
	if got := impl.HeadOf(l, at); got != headSlowly(l, at) {
		t.Errorf("HeadOf(%s, %d) = %q; want %q", shortList(l), at, got, headSlowly(l, at))
	}
	var inside []string
	if end >= 0 {
		inside = l[at:end]
	}
	if got := impl.Inside(l, at); !slices.Equal(got, inside) {
		t.Errorf("Inside(%s, %d) = %s; want %s", shortList(l), at, shortList(got), shortList(inside))
	}
	for _, with := range [][]string{nil, {"y"}, {"(", "y", "2", ")"}, {")", "("}, l} {
		want := slices.Clone(l)
		if end >= 0 {
			want = slices.Replace(want, int(at), int(end), with...)
		}
		if got := impl.Spliced(l, at, with); !slices.Equal(got, want) {
			t.Errorf("Spliced(%s, %d, %s) = %s; want %s", shortList(l), at, shortList(with), shortList(got), shortList(want))
		}
	}
}

// placesOf are all places of the list, and some that it does not have.
func placesOf(l []string) []int64 {
	n := int64(len(l))
	out := []int64{-1, -2, math.MinInt64, n, n + 1, n + 2, math.MaxInt64, math.MaxInt64 - 1, 1 << 32, -1 << 32}
	for at := range n {
		out = append(out, at)
	}
	return out
}

func itemLists(t *testing.T) [][]string {
	var out [][]string
	for _, page := range []string{
		"", "a", "5", "-5", "''", "'a b'", "+", "a b c", "( )", "(a)", "(+ 1 2)", "((a))", "(() ())", "((((()))))",
		"(say (+ 1 (f))) x", "(fn () (back 1))", "(let a (fn (b (c 5)) (say 'a b') (back (+ b c))))",
		"(a) (b) (c)", "(a (b) c (d (e)) f)", "() () ()", "(5)", "('a')", "(none)",
		"(", ")", "((", "))", ")(", "(a", "a)", "(a))", "((a)", ") (a)", "(a) )", "(a) (", "(a (b) (c", "a ) b",
	} {
		l, is := impl.SignsOf(page)
		if !is {
			t.Fatal(page)
		}
		out = append(out, l)
	}
	for _, bad := range []string{"", "A", "a b", "()", "'", "007", "abcdefghi", "\n", "(a)"} {
		out = append(out, []string{bad}, []string{bad, "a"}, []string{"a", bad}, []string{"(", bad, ")"}, []string{bad, "(", "a", ")"}, []string{"(", "a", ")", bad}, []string{"(", bad}, []string{"(", "(", "a", ")", "(", bad, ")", ")"}, []string{"(", "b", "(", bad, ")", "(", "c", ")", ")"})
	}
	return out
}

func TestItemsOfLists(t *testing.T) {
	for _, l := range itemLists(t) {
		for _, at := range placesOf(l) {
			checkItem(t, l, at)
		}
	}
}

func TestItemsOfAllShortLists(t *testing.T) {
	lists := [][]string{nil}
	for range 7 {
		var longer [][]string
		for _, l := range lists {
			for _, sign := range []string{"(", ")", "a", "A"} {
				longer = append(longer, append(slices.Clone(l), sign))
			}
		}
		for _, l := range longer {
			for at := int64(-1); at <= int64(len(l)); at++ {
				checkItem(t, l, at)
			}
		}
		if t.Failed() {
			return
		}
		lists = longer
	}
}

func TestEachSignButParensIsAnItem(t *testing.T) {
	for _, s := range rightSigns() {
		if s == "(" || s == ")" {
			continue
		}
		checkItem(t, []string{s}, 0)
		checkItem(t, []string{"(", s, ")"}, 0)
		if end := impl.ItemEnd([]string{s}, 0); end != 1 {
			t.Errorf("%q ends at %d", s, end)
		}
		if head := impl.HeadOf([]string{"(", s, ")"}, 0); head != s {
			t.Errorf("(%s) has the head %q", s, head)
		}
	}
	for _, s := range wrongSigns() {
		for _, l := range [][]string{{s}, {"(", s, ")"}, {"(", "a", s, ")"}, {"(", "(", s, ")", "a", ")"}} {
			checkItem(t, l, 0)
			if end := impl.ItemEnd(l, 0); end != -1 {
				t.Errorf("%q ends at %d", l, end)
			}
		}
	}
}

type itemAnswers struct {
	page   string
	at     int64
	end    int64
	depth  int64
	within []int64
	head   string
	inside string
	// What Spliced answers with (y 2), shown.
	spliced string
}

func checkAnswers(t *testing.T, l []string, c itemAnswers) {
	t.Helper()
	if end, depth := impl.ItemEnd(l, c.at), impl.DepthOf(l, c.at); end != c.end || depth != c.depth {
		t.Errorf("%s at %d: end %d, depth %d; want %d, %d", c.page, c.at, end, depth, c.end, c.depth)
	}
	if within := impl.ItemsIn(l, c.at); !slices.Equal(within, c.within) {
		t.Errorf("%s at %d: items at %d; want %d", c.page, c.at, within, c.within)
	}
	if head := impl.HeadOf(l, c.at); head != c.head {
		t.Errorf("%s at %d: head %q; want %q", c.page, c.at, head, c.head)
	}
	if inside := strings.Join(impl.Inside(l, c.at), " "); inside != c.inside {
		t.Errorf("%s at %d: inside %q; want %q", c.page, c.at, inside, c.inside)
	}
	with := []string{"(", "y", "2", ")"}
	if spliced := strings.Join(impl.Spliced(l, c.at, with), " "); spliced != c.spliced {
		t.Errorf("%s at %d: spliced %q; want %q", c.page, c.at, spliced, c.spliced)
	}
}

func TestItemAnswers(t *testing.T) {
	cases := []itemAnswers{
		{"a", 0, 1, 0, nil, "", "a", "( y 2 )"},
		{"a b", 1, 2, 0, nil, "", "b", "a ( y 2 )"},
		{"a b", 0, 1, 0, nil, "", "a", "( y 2 ) b"},
		{"( )", 0, 2, 1, nil, "", "( )", "( y 2 )"},
		{"( ( ) )", 0, 4, 2, []int64{1}, "", "( ( ) )", "( y 2 )"},
		{"( ( ) )", 1, 3, 1, nil, "", "( )", "( ( y 2 ) )"},
		{"( ( ) ) a", 4, 5, 0, nil, "", "a", "( ( ) ) ( y 2 )"},
		{"( + 1 2 )", 0, 5, 1, []int64{1, 2, 3}, "+", "( + 1 2 )", "( y 2 )"},
		{"( ( a ) b )", 0, 6, 2, []int64{1, 4}, "", "( ( a ) b )", "( y 2 )"},
		{"( ( a ) b )", 4, 5, 0, nil, "", "b", "( ( a ) ( y 2 ) )"},
		{"( say ( + 1 ( f ) ) ) x", 0, 10, 3, []int64{1, 2}, "say", "( say ( + 1 ( f ) ) )", "( y 2 ) x"},
		{"( say ( + 1 ( f ) ) ) x", 2, 9, 2, []int64{3, 4, 5}, "+", "( + 1 ( f ) )", "( say ( y 2 ) ) x"},
		{"( say ( + 1 ( f ) ) ) x", 5, 8, 1, []int64{6}, "f", "( f )", "( say ( + 1 ( y 2 ) ) ) x"},
		{"( say ( + 1 ( f ) ) ) x", 10, 11, 0, nil, "", "x", "( say ( + 1 ( f ) ) ) ( y 2 )"},
		{"( a ) ( b )", 3, 6, 1, []int64{4}, "b", "( b )", "( a ) ( y 2 )"},
	}
	for _, c := range cases {
		checkAnswers(t, strings.Fields(c.page), c)
	}
}

func TestItemAnswersWhereNoneBegins(t *testing.T) {
	cases := []struct {
		page string
		ats  []int64
	}{
		{"", []int64{-1, 0, 1}},
		{"a", []int64{-1, 1, 2, math.MinInt64, math.MaxInt64}},
		{"( a )", []int64{-1, 2, 3, 4, math.MinInt64, math.MaxInt64}},
		{")", []int64{0}},
		{") a", []int64{0}},
		{"(", []int64{0}},
		{"( a", []int64{0}},
		{"( ( a )", []int64{0}},
		{"( ( a ) b", []int64{0, 3}},
		{"( A )", []int64{0, 1, 2}},
		{"( a ( b A ) )", []int64{0, 2, 4}},
		{"( a 007 )", []int64{0, 2}},
		{"A ( b )", []int64{0}},
	}
	for _, c := range cases {
		for _, at := range c.ats {
			checkAnswers(t, strings.Fields(c.page), itemAnswers{c.page, at, -1, -1, nil, "", "", c.page})
		}
	}
	for _, l := range [][]string{nil, {}} {
		for _, at := range placesOf(nil) {
			checkAnswers(t, l, itemAnswers{"nothing", at, -1, -1, nil, "", "", ""})
		}
	}
}

// What is no sign matters to the items that it stands in, to no other.
func TestWhatIsNoSignBesideAnItem(t *testing.T) {
	l := []string{"A", "(", "f", "(", "b", ")", "A", ")", "(", "c", ")", ""}
	for at, end := range map[int64]int64{0: -1, 1: -1, 2: 3, 3: 6, 4: 5, 6: -1, 8: 11, 9: 10, 11: -1} {
		if got := impl.ItemEnd(l, at); got != end {
			t.Errorf("at %d: %d; want %d", at, got, end)
		}
	}
	if got := impl.Spliced(l, 8, []string{"y"}); !slices.Equal(got, []string{"A", "(", "f", "(", "b", ")", "A", ")", "y", ""}) {
		t.Errorf("%q", got)
	}
}

// Promise 3, its second half: its items make an item up.
func checkMadeUp(t *testing.T, l []string, at int64) {
	t.Helper()
	end := impl.ItemEnd(l, at)
	if end < 0 || l[at] != "(" {
		return
	}
	made := []string{"("}
	next := at + 1
	for _, begin := range impl.ItemsIn(l, at) {
		if begin != next {
			t.Errorf("%s at %d: an item begins at %d, the one ahead of it ends at %d", shortList(l), at, begin, next)
			return
		}
		next = impl.ItemEnd(l, begin)
		made = append(made, impl.Inside(l, begin)...)
	}
	if next != end-1 || l[next] != ")" {
		t.Errorf("%s at %d: its items end at %d, it ends at %d", shortList(l), at, next, end)
	}
	if whole := impl.Inside(l, at); !slices.Equal(append(made, ")"), whole) {
		t.Errorf("%s at %d: %s is made up of %s", shortList(l), at, shortList(whole), shortList(made))
	}
}

// Promise 3, its first half: whatever stands behind an item, it ends there; cut
// short it ends nowhere.
func checkOneEnd(t *testing.T, l []string, at int64) {
	t.Helper()
	end := impl.ItemEnd(l, at)
	if end < 0 {
		return
	}
	if end <= at || end > int64(len(l)) {
		t.Errorf("%s at %d: ends at %d", shortList(l), at, end)
		return
	}
	for cut := range end {
		if got := impl.ItemEnd(l[:cut], at); got != -1 {
			t.Errorf("%s at %d: cut at %d it ends at %d", shortList(l), at, cut, got)
		}
	}
	for _, more := range [][]string{{}, {"a"}, {"("}, {")"}, {"(", ")"}, {"A"}, {""}} {
		if got := impl.ItemEnd(slices.Concat(l[:end], more), at); got != end {
			t.Errorf("%s at %d: ends at %d, with %q behind it at %d", shortList(l), at, end, more, got)
		}
	}
	if got := impl.ItemEnd(impl.Inside(l, at), 0); got != end-at {
		t.Errorf("%s at %d: alone it ends at %d; want %d", shortList(l), at, got, end-at)
	}
}

func TestAnItemEndsAtOnePlaceAndItsItemsMakeItUp(t *testing.T) {
	lists := itemLists(t)
	deep := slices.Concat(slices.Repeat([]string{"(", "a"}, 60), slices.Repeat([]string{")", "b"}, 60))
	lists = append(lists, deep, slices.Concat([]string{"("}, slices.Repeat([]string{"(", "a", ")", "b"}, 40), []string{")"}))
	for _, l := range lists {
		for _, at := range placesOf(l) {
			checkOneEnd(t, l, at)
			checkMadeUp(t, l, at)
		}
	}
}

// nested is one sign with n ( around it.
func nested(n int) []string {
	return slices.Concat(slices.Repeat([]string{"("}, n), []string{"a"}, slices.Repeat([]string{")"}, n))
}

// Promise 21, for the functions of chapter 3, from here on.
func TestItemsOneWithinTheOther(t *testing.T) {
	for _, n := range []int{1, 2, 60, 61, impl.MaxSigns, 300000} {
		l := nested(n)
		if end, depth := impl.ItemEnd(l, 0), impl.DepthOf(l, 0); end != int64(len(l)) || depth != int64(n) {
			t.Errorf("%d deep: end %d, depth %d", n, end, depth)
		}
		if within := impl.ItemsIn(l, 0); !slices.Equal(within, []int64{1}) {
			t.Errorf("%d deep: %d items", n, len(within))
		}
		if head := impl.HeadOf(l, 0); n > 1 && head != "" || n == 1 && head != "a" {
			t.Errorf("%d deep: head %q", n, head)
		}
		if inside := impl.Inside(l, 1); !slices.Equal(inside, l[1:len(l)-1]) {
			t.Errorf("%d deep: %d signs inside", n, len(inside))
		}
		if spliced := impl.Spliced(l, 1, nil); !slices.Equal(spliced, []string{"(", ")"}) {
			t.Errorf("%d deep: spliced to %s", n, shortList(spliced))
		}
	}
}

func TestManyThatAreNeverClosed(t *testing.T) {
	for _, n := range []int{1, 60, impl.MaxSigns, 300000} {
		whole := nested(n)
		for _, l := range [][]string{whole[:n], whole[:n+1], whole[:len(whole)-1], whole[n+1:], append(whole[:2*n:2*n], "A")} {
			if end, depth := impl.ItemEnd(l, 0), impl.DepthOf(l, 0); end != -1 || depth != -1 {
				t.Errorf("%s: end %d, depth %d", shortList(l), end, depth)
			}
			if within, head := impl.ItemsIn(l, 0), impl.HeadOf(l, 0); len(within) != 0 || head != "" {
				t.Errorf("%s: %d items, head %q", shortList(l), len(within), head)
			}
			if inside := impl.Inside(l, 0); len(inside) != 0 {
				t.Errorf("%s: %d signs inside", shortList(l), len(inside))
			}
			if spliced := impl.Spliced(l, 0, []string{"y"}); !slices.Equal(spliced, l) {
				t.Errorf("%s: spliced to %s", shortList(l), shortList(spliced))
			}
		}
	}
}

// An item of very many items takes no longer than all its signs take.
func TestItemsSideBySide(t *testing.T) {
	const n = 200000
	l := slices.Concat([]string{"("}, slices.Repeat([]string{"(", "a", ")"}, n), []string{")"})
	within := impl.ItemsIn(l, 0)
	if len(within) != n || impl.DepthOf(l, 0) != 2 {
		t.Fatalf("%d items, depth %d", len(within), impl.DepthOf(l, 0))
	}
	for i, at := range within {
		if at != int64(3*i+1) {
			t.Fatalf("item %d begins at %d", i, at)
		}
	}
}

const spare = "spare"

// roomy is l with spare room behind it, and all of that room.
func roomy(l []string) ([]string, []string) {
	room := append(slices.Clone(l), spare, spare, spare, spare)
	return room[:len(l)], room
}

func TestItemsLeaveWhatIsGiven(t *testing.T) {
	for _, given := range itemLists(t) {
		l, room := roomy(given)
		with, withRoom := roomy([]string{"(", "y", ")"})
		was, withWas := slices.Clone(room), slices.Clone(withRoom)
		for _, at := range placesOf(l) {
			impl.ItemEnd(l, at)
			impl.ItemsIn(l, at)
			impl.HeadOf(l, at)
			impl.DepthOf(l, at)
			impl.Inside(l, at)
			for _, w := range [][]string{with, with[:0], nil, l} {
				impl.Spliced(l, at, w)
			}
			if !slices.Equal(room, was) || !slices.Equal(withRoom, withWas) {
				t.Fatalf("at %d: %q became %q, %q became %q", at, was, room, withWas, withRoom)
			}
		}
	}
}

// overwritten writes into all the memory that a list has, its spare room too.
func overwritten(l []string) {
	all := l[:cap(l)]
	for i := range all {
		all[i] = "over"
	}
}

func TestItemsAnswerNewMemory(t *testing.T) {
	for _, given := range itemLists(t) {
		for _, at := range placesOf(given) {
			l, room := roomy(given)
			with, withRoom := roomy([]string{"(", "y", ")"})
			was, withWas := slices.Clone(room), slices.Clone(withRoom)
			overwritten(impl.Inside(l, at))
			for _, w := range [][]string{with, with[:0], nil, l, l[:0]} {
				overwritten(impl.Spliced(l, at, w))
			}
			if !slices.Equal(room, was) || !slices.Equal(withRoom, withWas) {
				t.Fatalf("%q at %d: an answer shares memory with what was given", given, at)
			}
		}
	}
}

func TestItemsInAnswersNewMemory(t *testing.T) {
	l := []string{"(", "a", "b", "(", "c", ")", ")"}
	first := impl.ItemsIn(l, 0)
	second := impl.ItemsIn(l, 0)
	for i := range first {
		first[i] = -7
	}
	if want := []int64{1, 2, 3}; !slices.Equal(second, want) || !slices.Equal(impl.ItemsIn(l, 0), want) {
		t.Errorf("%d", second)
	}
}

// The line "item" of the document's chapter Ways.
func TestItemsAreGoneThroughByARangeOverAFunction(t *testing.T) {
	if !hasRangeOverFunction(t, "../impl/l03_item.go") {
		t.Error("no range over a function in the layer of the items")
	}
}
