package tests

import (
	"math"
	"strings"

	"loop.example/g00544/impl"
)

const greatest = 999999999

func number(n int64) impl.Value { return impl.Value{Kind: impl.VaNumber, Number: n} }

func text(s string) impl.Value { return impl.Value{Kind: impl.VaText, Text: s} }

func place(kind int64, n int64) impl.Value { return impl.Value{Kind: kind, Number: n} }

func rightNumbers() []int64 {
	return []int64{
		0, 1, -1, 2, -2, 7, -40, 31622, 31623, -31623, 40000,
		greatest / 2, greatest/2 + 1, -greatest / 2, -greatest/2 - 1,
		greatest - 1, greatest, -greatest + 1, -greatest,
	}
}

func rightTexts() []string {
	return []string{
		"", "a", "z", "0", "9", "-", " ", "none", "7", "ab 0-9 yz",
		strings.Repeat("q", impl.MaxText/2), strings.Repeat("q", impl.MaxText/2+1),
		strings.Repeat("q", impl.MaxText-1), strings.Repeat("q", impl.MaxText),
	}
}

func places() []impl.Value {
	var out []impl.Value
	for _, kind := range []int64{impl.VaThing, impl.VaFunc, impl.VaTable} {
		for _, n := range []int64{0, 1, greatest + 1, math.MaxInt64} {
			out = append(out, place(kind, n))
		}
	}
	return out
}

func rightValues() []impl.Value {
	out := append([]impl.Value{{}}, places()...)
	for _, n := range rightNumbers() {
		out = append(out, number(n))
	}
	for _, s := range rightTexts() {
		out = append(out, text(s))
	}
	return out
}

func wrongValues() []impl.Value {
	var out []impl.Value
	for _, kind := range []int64{-1, 6, 7, 100, math.MinInt64, math.MaxInt64} {
		out = append(out, impl.Value{Kind: kind}, impl.Value{Kind: kind, Number: 1}, impl.Value{Kind: kind, Text: "a"})
	}
	for _, n := range []int64{1, -1, math.MinInt64, math.MaxInt64} {
		out = append(out, impl.Value{Number: n}, impl.Value{Kind: impl.VaText, Number: n, Text: "a"}, impl.Value{Kind: impl.VaText, Number: n})
	}
	for _, s := range []string{"a", "7", " ", "A", "\x00"} {
		out = append(out, impl.Value{Text: s})
		for _, kind := range []int64{impl.VaNumber, impl.VaThing, impl.VaFunc, impl.VaTable} {
			out = append(out, impl.Value{Kind: kind, Text: s}, impl.Value{Kind: kind, Number: 7, Text: s})
		}
	}
	for _, n := range []int64{greatest + 1, -greatest - 1, 1 << 32, math.MaxInt64, math.MinInt64} {
		out = append(out, number(n))
	}
	for _, kind := range []int64{impl.VaThing, impl.VaFunc, impl.VaTable} {
		out = append(out, place(kind, -1), place(kind, math.MinInt64))
	}
	for _, s := range []string{"A", "a_b", "'", "a'", "\n", "a\tb", "é", "a\x00", "\xff", "+", "(", strings.Repeat("q", impl.MaxText+1), strings.Repeat("q", 300)} {
		out = append(out, text(s))
	}
	return out
}

func allValues() []impl.Value { return append(rightValues(), wrongValues()...) }
