package tests

import (
	"math"
	"strconv"
	"strings"

	"loop.example/g00544/impl"
)

// The document's words about what two say, as they stand there: the tests hold
// the program against these. The program goes through lists; this writes them
// out as one text, each of theirs between quotes, so that no two lists are
// written alike.

func writtenOut(l []string) string {
	var out strings.Builder
	for _, s := range l {
		out.WriteString(strconv.Quote(s))
	}
	return out.String()
}

func beginsSlowly(a []string, b []string) bool {
	return strings.HasPrefix(writtenOut(b), writtenOut(a))
}

func alikeSlowly(a impl.Show, b impl.Show) bool {
	cut := func(s impl.Show) bool { return s.Fault == 4 || s.Fault == 5 }
	switch {
	case !cut(a) && !cut(b):
		return writtenOut(a.Said) == writtenOut(b.Said) && a.Fault == b.Fault
	case !cut(a):
		return beginsSlowly(b.Said, a.Said)
	case !cut(b):
		return beginsSlowly(a.Said, b.Said)
	}
	return beginsSlowly(a.Said, b.Said) || beginsSlowly(b.Said, a.Said)
}

func saidSlowly(l []string, fuel int64) []string { return playedSlowly(l, fuel).Said }

// endedFaults are those with which a Show Ended; those behind the first four are
// none that the document names.
func endedFaults() []int64 {
	return []int64{
		impl.FtNone, impl.FtKind, impl.FtOver, impl.FtKey,
		-1, 6, 7, 100, -impl.FtFuel, -impl.FtMany, 1<<32 + impl.FtFuel, 1<<32 + impl.FtMany, 1<<8 + impl.FtFuel, math.MinInt64, math.MaxInt64,
	}
}

func cutFaults() []int64 { return []int64{impl.FtFuel, impl.FtMany} }

func everyFault() []int64 { return append(endedFaults(), cutFaults()...) }

// A twoSaids is what two say, the first one no longer than the other one.
type twoSaids struct{ a, b []string }

func (s twoSaids) turned() twoSaids { return twoSaids{s.b, s.a} }

func sameSaids() []twoSaids {
	return []twoSaids{
		{nil, nil}, {nil, []string{}}, {[]string{}, nil}, {[]string{}, []string{}}, {[]string{""}, []string{""}}, {[]string{"a"}, []string{"a"}}, {[]string{"", ""}, []string{"", ""}}, {[]string{"a", ""}, []string{"a", ""}}, {[]string{"a", "b", "c"}, []string{"a", "b", "c"}}, {[]string{"a", "", "a"}, []string{"a", "", "a"}}, {[]string{"A\n", "é", "\xff", "/"}, []string{"A\n", "é", "\xff", "/"}},
		{qs(200), qs(200)}, {qs(100000), qs(100000)},
	}
}

// longerSaids have the first one as the beginning of the other one, and not as
// all of it.
func longerSaids() []twoSaids {
	return []twoSaids{
		{nil, []string{""}}, {nil, []string{"a"}}, {[]string{}, []string{"a", "b"}}, {[]string{}, []string{"", ""}}, {[]string{""}, []string{"", ""}}, {[]string{"a"}, []string{"a", ""}}, {[]string{"a"}, []string{"a", "a"}}, {[]string{"a"}, []string{"a", "b", "c"}}, {[]string{"a", "b"}, []string{"a", "b", "c"}}, {[]string{"a", ""}, []string{"a", "", "c"}}, {[]string{"", "b"}, []string{"", "b", ""}}, {[]string{"\xff"}, []string{"\xff", "\xff"}},
		{nil, qs(200)}, {qs(1), qs(200)}, {qs(199), qs(200)}, {qs(50000), qs(100000)}, {qs(99999), qs(100000)},
	}
}

// otherSaids part at the first place, at a middle one or at the last one of the
// shorter one.
func otherSaids() []twoSaids {
	return []twoSaids{
		{[]string{"a"}, []string{"b"}}, {[]string{""}, []string{"a"}}, {[]string{"a"}, []string{""}}, {[]string{"x", "b", "c"}, []string{"a", "b", "c"}}, {[]string{"a", "x", "c"}, []string{"a", "b", "c"}}, {[]string{"a", "b", "x"}, []string{"a", "b", "c"}}, {[]string{"a", "b"}, []string{"b", "a"}}, {[]string{"", "b", "c"}, []string{"a", "b", "c"}}, {[]string{"a", "", "c"}, []string{"a", "b", "c"}}, {[]string{"a", "b", ""}, []string{"a", "b", "c"}}, {[]string{"", "a"}, []string{"a", ""}},
		{[]string{"x"}, []string{"a", "b"}}, {[]string{""}, []string{"a", "b"}}, {[]string{"b"}, []string{"a", "b"}}, {[]string{"b", "c"}, []string{"a", "b", "c"}}, {[]string{"a", "c"}, []string{"a", "b", "c"}}, {[]string{"a", "b"}, []string{"a", "", "b"}}, {[]string{"a", ""}, []string{"a", "b", "c"}}, {[]string{"a"}, []string{"", "a"}},
		// A text that begins another one, or that both make up, is another one.
		{[]string{"a"}, []string{"ab"}}, {[]string{"ab"}, []string{"a"}}, {[]string{"ab"}, []string{"a", "b"}}, {[]string{"a", "b"}, []string{"ab", ""}}, {[]string{"a b"}, []string{"a", "b"}}, {[]string{"a/b"}, []string{"a", "b"}}, {[]string{"a\"\"b"}, []string{"a", "b"}}, {[]string{"A"}, []string{"a"}}, {[]string{"a"}, []string{"a "}}, {[]string{"1"}, []string{"01"}}, {[]string{"a\x00"}, []string{"a"}}, {[]string{"\xff"}, []string{"\xfe"}}, {[]string{"\xff"}, []string{"\uFFFD"}},
		{qsBut(200, 0), qs(200)}, {qsBut(200, 100), qs(200)}, {qsBut(200, 199), qs(200)}, {qsBut(199, 0), qs(200)}, {qsBut(199, 198), qs(200)}, {qs(199), qsBut(200, 7)}, {qsBut(100000, 99999), qs(100000)},
	}
}

func qs(count int) []string { return manyOf(count, func(int64) string { return "q" }) }

// qsBut has another text at one place.
func qsBut(count int, at int) []string {
	out := qs(count)
	out[at] = "p"
	return out
}

// listsOf are all lists of at most so many out of these texts.
func listsOf(most int, texts ...string) [][]string {
	out := [][]string{{}}
	for from := 0; most > 0; most-- {
		to := len(out)
		for _, l := range out[from:to] {
			for _, s := range texts {
				out = append(out, append(append([]string{}, l...), s))
			}
		}
		from = to
	}
	return out
}
