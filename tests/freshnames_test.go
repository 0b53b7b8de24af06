package tests

import (
	"maps"
	"slices"
	"strconv"
)

// The document's words about fresh names, as they stand there: the tests hold
// the program against these. They ask each sign of the list itself, and lean on
// what the tests of the signs take for a name.

func namesSlowly(l []string) []string {
	names := map[string]int{}
	for _, sign := range l {
		if nameForm.MatchString(sign) {
			names[sign]++
		}
	}
	return slices.Sorted(maps.Keys(names))
}

func vNumber(n int64) string { return "v" + strconv.Itoa(int(n)) }

// vNumbers are v and each number from one on to another, both too.
func vNumbers(from int64, to int64) []string {
	var out []string
	for n := from; n <= to; n++ {
		out = append(out, vNumber(n))
	}
	return out
}

func freshSlowly(l []string, n int64) string {
	if n < 0 || n > 99999 {
		return ""
	}
	return vNumber(freshNumberSlowly(l, n))
}

func freshNumberSlowly(l []string, n int64) int64 {
	names := namesSlowly(l)
	for slices.Contains(names, vNumber(n)) {
		n++
	}
	return n
}

// freshManySlowly has each one from behind the one before it.
func freshManySlowly(l []string, n int64) []string {
	var out []string
	if n < 0 || n > 200 {
		return out
	}
	from := int64(0)
	for range n {
		number := freshNumberSlowly(l, from)
		out = append(out, vNumber(number))
		from = number + 1
	}
	return out
}
