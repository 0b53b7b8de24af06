package tests

import (
	"strconv"
	"strings"
	"testing"

	"loop.example/g00544/impl"
)

type reckoning func(impl.Value, impl.Value) (impl.Value, int64)

func TestFaultsAndKindsAreNumberedAsTheDocumentNumbersThem(t *testing.T) {
	faults := []int64{impl.FtNone, impl.FtKind, impl.FtOver, impl.FtKey, impl.FtFuel, impl.FtMany}
	kinds := []int64{impl.VaNone, impl.VaNumber, impl.VaText, impl.VaThing, impl.VaFunc, impl.VaTable}
	for i := range faults {
		if faults[i] != int64(i) || kinds[i] != int64(i) {
			t.Errorf("place %d: fault %d, kind %d", i, faults[i], kinds[i])
		}
	}
	if impl.MaxText != 60 {
		t.Errorf("MaxText is %d", impl.MaxText)
	}
}

func TestValueOk(t *testing.T) {
	for _, v := range rightValues() {
		if !impl.ValueOk(v) {
			t.Errorf("%#v is right", v)
		}
	}
	for _, v := range wrongValues() {
		if impl.ValueOk(v) {
			t.Errorf("%#v is wrong", v)
		}
	}
}

func TestValueOkOfEachByte(t *testing.T) {
	const may = "abcdefghijklmnopqrstuvwxyz0123456789- "
	for c := range 256 {
		s := string([]byte{byte(c)})
		for _, whole := range []string{s, "a" + s, s + "a", strings.Repeat("a", impl.MaxText-1) + s} {
			if impl.ValueOk(text(whole)) != strings.Contains(may, s) {
				t.Errorf("a text with byte %d: %q", c, whole)
			}
		}
	}
}

func TestReckonedAnswers(t *testing.T) {
	cases := []struct {
		name  string
		do    reckoning
		a, b  int64
		want  int64
		fault int64
	}{
		{"Plus", impl.Plus, 7, 7, 14, impl.FtNone},
		{"Plus", impl.Plus, 7, -9, -2, impl.FtNone},
		{"Plus", impl.Plus, greatest, 0, greatest, impl.FtNone},
		{"Plus", impl.Plus, greatest - 1, 1, greatest, impl.FtNone},
		{"Plus", impl.Plus, greatest, 1, 0, impl.FtOver},
		{"Plus", impl.Plus, -greatest + 1, -1, -greatest, impl.FtNone},
		{"Plus", impl.Plus, -greatest, -1, 0, impl.FtOver},
		{"Plus", impl.Plus, greatest, greatest, 0, impl.FtOver},
		{"Less", impl.Less, 7, 9, -2, impl.FtNone},
		{"Less", impl.Less, 9, 7, 2, impl.FtNone},
		{"Less", impl.Less, -greatest + 1, 1, -greatest, impl.FtNone},
		{"Less", impl.Less, -greatest, 1, 0, impl.FtOver},
		{"Less", impl.Less, greatest - 1, -1, greatest, impl.FtNone},
		{"Less", impl.Less, greatest, -1, 0, impl.FtOver},
		{"Less", impl.Less, 0, -greatest, greatest, impl.FtNone},
		{"Times", impl.Times, 6, -7, -42, impl.FtNone},
		{"Times", impl.Times, greatest, 0, 0, impl.FtNone},
		{"Times", impl.Times, greatest, -1, -greatest, impl.FtNone},
		{"Times", impl.Times, 333333333, 3, greatest, impl.FtNone},
		{"Times", impl.Times, -333333333, 3, -greatest, impl.FtNone},
		{"Times", impl.Times, 500000000, 2, 0, impl.FtOver},
		{"Times", impl.Times, 500000000, -2, 0, impl.FtOver},
		{"Times", impl.Times, 40000, 40000, 0, impl.FtOver},
		{"Times", impl.Times, 65536, 65536, 0, impl.FtOver},
		{"Times", impl.Times, greatest, greatest, 0, impl.FtOver},
		{"Times", impl.Times, -greatest, greatest, 0, impl.FtOver},
		{"Below", impl.Below, -1, 7, 1, impl.FtNone},
		{"Below", impl.Below, 7, -1, 0, impl.FtNone},
		{"Below", impl.Below, 7, 7, 0, impl.FtNone},
		{"Below", impl.Below, -greatest, greatest, 1, impl.FtNone},
		{"Below", impl.Below, greatest - 1, greatest, 1, impl.FtNone},
	}
	for _, c := range cases {
		want := number(c.want)
		if c.fault != impl.FtNone {
			want = impl.Value{}
		}
		if v, fault := c.do(number(c.a), number(c.b)); v != want || fault != c.fault {
			t.Errorf("%s(%d, %d) = %#v, %d; want %#v, %d", c.name, c.a, c.b, v, fault, want, c.fault)
		}
	}
}

func TestReckonedOfAllRightNumbers(t *testing.T) {
	check := func(name string, v impl.Value, fault int64, n int64) {
		if n < -greatest || n > greatest {
			if (v != impl.Value{}) || fault != impl.FtOver {
				t.Errorf("%s, for %d: %#v, %d", name, n, v, fault)
			}
		} else if v != number(n) || fault != impl.FtNone {
			t.Errorf("%s, for %d: %#v, %d", name, n, v, fault)
		}
	}
	for _, a := range rightNumbers() {
		for _, b := range rightNumbers() {
			v, fault := impl.Plus(number(a), number(b))
			check("Plus", v, fault, a+b)
			v, fault = impl.Less(number(a), number(b))
			check("Less", v, fault, a-b)
			v, fault = impl.Times(number(a), number(b))
			check("Times", v, fault, a*b)
		}
	}
}

func TestReckonedOfOthersIsFtKind(t *testing.T) {
	var others []impl.Value
	for _, v := range allValues() {
		if v.Kind != impl.VaNumber || !isRight(v) {
			others = append(others, v)
		}
	}
	all := map[string]reckoning{"Plus": impl.Plus, "Less": impl.Less, "Times": impl.Times, "Below": impl.Below}
	for name, do := range all {
		for _, other := range others {
			for _, v := range allValues() {
				if got, fault := do(other, v); (got != impl.Value{}) || fault != impl.FtKind {
					t.Errorf("%s(%#v, %#v) = %#v, %d", name, other, v, got, fault)
				}
				if got, fault := do(v, other); (got != impl.Value{}) || fault != impl.FtKind {
					t.Errorf("%s(%#v, %#v) = %#v, %d", name, v, other, got, fault)
				}
			}
		}
	}
}

// isRight knows by where a Value was listed, not by ValueOk, whether it is right.
func isRight(v impl.Value) bool {
	for _, r := range rightValues() {
		if r == v {
			return true
		}
	}
	return false
}

// Promise 1, its first half.
func TestPlusAndLessGoBackAndForth(t *testing.T) {
	for _, x := range rightNumbers() {
		for _, y := range rightNumbers() {
			a, b := number(x), number(y)
			if sum, fault := impl.Plus(a, b); fault == impl.FtNone {
				if back, fault := impl.Less(sum, b); back != a || fault != impl.FtNone {
					t.Errorf("%d plus %d, less %d: %#v, %d", x, y, y, back, fault)
				}
			}
			if rest, fault := impl.Less(a, b); fault == impl.FtNone {
				if back, fault := impl.Plus(rest, b); back != a || fault != impl.FtNone {
					t.Errorf("%d less %d, plus %d: %#v, %d", x, y, y, back, fault)
				}
			}
		}
	}
}

// Promise 1, its second half.
func TestJoinedIsAsLongAsBoth(t *testing.T) {
	for _, a := range allValues() {
		for _, b := range allValues() {
			v, fault := impl.Joined(a, b)
			first, faultA := impl.TextOf(a)
			second, faultB := impl.TextOf(b)
			want, wantFault := text(first+second), int64(impl.FtNone)
			if faultA != impl.FtNone || faultB != impl.FtNone {
				want, wantFault = impl.Value{}, impl.FtKind
			} else if len(first)+len(second) > impl.MaxText {
				want, wantFault = impl.Value{}, impl.FtOver
			}
			if v != want || fault != wantFault {
				t.Errorf("Joined(%#v, %#v) = %#v, %d; want %#v, %d", a, b, v, fault, want, wantFault)
			}
			if fault == impl.FtNone && (len(v.Text) != len(first)+len(second) || !impl.ValueOk(v)) {
				t.Errorf("Joined(%#v, %#v) = %#v", a, b, v)
			}
		}
	}
}

func TestJoinedAnswers(t *testing.T) {
	half := strings.Repeat("h", impl.MaxText/2)
	long := strings.Repeat("l", impl.MaxText+1)
	thing := place(impl.VaThing, 0)
	cases := []struct {
		a, b  impl.Value
		want  impl.Value
		fault int64
	}{
		{text("ab"), number(7), text("ab7"), impl.FtNone},
		{number(7), text("ab"), text("7ab"), impl.FtNone},
		{number(-7), number(-8), text("-7-8"), impl.FtNone},
		{impl.Value{}, impl.Value{}, text("nonenone"), impl.FtNone},
		{impl.Value{}, text("a b"), text("nonea b"), impl.FtNone},
		{text(""), text(""), text(""), impl.FtNone},
		{text(half), text(half), text(half + half), impl.FtNone},
		{text(half), text(half + "x"), impl.Value{}, impl.FtOver},
		{text(half + half), text(""), text(half + half), impl.FtNone},
		{text(half + half), number(0), impl.Value{}, impl.FtOver},
		{text(half + half[:20]), number(-greatest), text(half + half[:20] + "-999999999"), impl.FtNone},
		{text(half + half[:21]), number(-greatest), impl.Value{}, impl.FtOver},
		{impl.Value{}, thing, impl.Value{}, impl.FtKind},
		{thing, impl.Value{}, impl.Value{}, impl.FtKind},
		{text(half + half), thing, impl.Value{}, impl.FtKind},
		{text(long), text("a"), impl.Value{}, impl.FtKind},
		{text("a"), text(long), impl.Value{}, impl.FtKind},
	}
	for _, c := range cases {
		if v, fault := impl.Joined(c.a, c.b); v != c.want || fault != c.fault {
			t.Errorf("Joined(%#v, %#v) = %#v, %d; want %#v, %d", c.a, c.b, v, fault, c.want, c.fault)
		}
	}
}

func TestSame(t *testing.T) {
	all := allValues()
	for i, a := range all {
		for j, b := range all {
			want := number(0)
			if i == j || a.Kind == b.Kind && a.Number == b.Number && a.Text == b.Text {
				want = number(1)
			}
			if got := impl.Same(a, b); got != want {
				t.Errorf("Same(%#v, %#v) = %#v", a, b, got)
			}
		}
	}
	apart := [][2]impl.Value{
		{number(7), text("7")},
		{number(0), {}},
		{text(""), {}},
		{text("none"), {}},
		{place(impl.VaThing, 0), place(impl.VaFunc, 0)},
		{place(impl.VaTable, 0), place(impl.VaTable, 1)},
	}
	for _, p := range apart {
		if got := impl.Same(p[0], p[1]); got != number(0) {
			t.Errorf("Same(%#v, %#v) = %#v", p[0], p[1], got)
		}
	}
}

func TestTruth(t *testing.T) {
	for _, n := range rightNumbers() {
		if is, fault := impl.Truth(number(n)); is != (n != 0) || fault != impl.FtNone {
			t.Errorf("Truth of %d: %v, %d", n, is, fault)
		}
	}
	for _, v := range allValues() {
		if v.Kind == impl.VaNumber && isRight(v) {
			continue
		}
		if is, fault := impl.Truth(v); is || fault != impl.FtKind {
			t.Errorf("Truth(%#v) = %v, %d", v, is, fault)
		}
	}
}

func TestTextOf(t *testing.T) {
	check := func(v impl.Value, want string, wantFault int64) {
		if s, fault := impl.TextOf(v); s != want || fault != wantFault {
			t.Errorf("TextOf(%#v) = %q, %d; want %q, %d", v, s, fault, want, wantFault)
		}
	}
	check(impl.Value{}, "none", impl.FtNone)
	check(number(0), "0", impl.FtNone)
	check(number(-greatest), "-999999999", impl.FtNone)
	for _, n := range rightNumbers() {
		check(number(n), strconv.FormatInt(n, 10), impl.FtNone)
	}
	for _, s := range rightTexts() {
		check(text(s), s, impl.FtNone)
	}
	for _, v := range append(places(), wrongValues()...) {
		check(v, "", impl.FtKind)
	}
}

// The line "value" of the document's chapter Ways.
func TestValuesAreToldApartByATypeSwitch(t *testing.T) {
	if !hasTypeSwitch(t, "../impl/l01_value.go") {
		t.Error("no type switch in the layer of the values")
	}
}
