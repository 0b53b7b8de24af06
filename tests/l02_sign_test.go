package tests

import (
	"fmt"
	"go/token"
	"math"
	"regexp"
	"slices"
	"strconv"
	"strings"
	"testing"

	"loop.example/g00544/impl"
)

// The document's words about signs, written as patterns: the tests hold the
// program against these, not against itself.
var (
	nameForm   = regexp.MustCompile(`\A[a-z][a-z0-9]{0,7}\z`)
	numberForm = regexp.MustCompile(`\A(?:0|-?[1-9][0-9]{0,8})\z`)
	textForm   = regexp.MustCompile(`\A'[a-z0-9 -]{0,60}'\z`)
	markForm   = regexp.MustCompile(`\A[()+*<=&-]\z`)
)

func isSign(s string) bool {
	return nameForm.MatchString(s) || numberForm.MatchString(s) || textForm.MatchString(s) || markForm.MatchString(s)
}

func rightNames() []string {
	return []string{"a", "z", "x1", "v12", "none", "let", "aa", "a0", "z9", "abcdefg", "abcdefgh", "a1234567", "zzzzzzzz"}
}

func writtenNumbers() []string {
	return []string{"0", "1", "9", "10", "-1", "-9", "-10", "12", "-12", "100", "99999999", "-99999999", "100000000", "999999999", "-999999999"}
}

func marks() []string { return []string{"+", "-", "*", "<", "=", "&"} }

func rightSigns() []string {
	out := append([]string{"(", ")"}, marks()...)
	out = append(append(out, rightNames()...), writtenNumbers()...)
	for _, s := range rightTexts() {
		out = append(out, "'"+s+"'")
	}
	return out
}

func wrongSigns() []string {
	return []string{
		"", " ", "\n", "A", "aB", "Ab", "abcdefghi", "abcdefghA", "a12345678", "a_b", "a-b", "a b", "a ", " a", "a\n", "1a", "é", "aé", "\xff", "a\x00", "\x00",
		"00", "01", "007", "-0", "-00", "-01", "+1", "+0", "--1", "- 1", " 1", "1 ", "1.0", "0x1", "1e3", "1_0", "1-", "-a", "-'", "1000000000", "-1000000000", "0000000001", "9999999999", "99999999999999999999", strings.Repeat("9", 300),
		"'", "''a", "a''", "'''", "''''", "'a", "a'", "'A'", "'a\nb'", "'a\tb'", "'é'", "'a+b'", "'(a)'", "'\x00'", "'a''b'", "'a' ", " 'a'",
		"'" + strings.Repeat("q", impl.MaxText+1) + "'", "'" + strings.Repeat("q", impl.MaxText), "'" + strings.Repeat("q", impl.MaxText+1), "'" + strings.Repeat("q", 300) + "'",
		"()", "((", "))", "(a", "a)", "++", "+-", "-+", "--", "<=", "==", "&&", "**", ".", ",", "/", ">", "|", "!", "\"", "\"a\"", "`a`", "[", "]", "{}", "\t", "\r",
	}
}

func TestSignLimits(t *testing.T) {
	if impl.MaxSigns != 2000 || impl.MaxPage != 20000 {
		t.Errorf("MaxSigns is %d, MaxPage %d", impl.MaxSigns, impl.MaxPage)
	}
}

func TestNameOk(t *testing.T) {
	for _, s := range rightNames() {
		if !impl.NameOk(s) {
			t.Errorf("%q is a name", s)
		}
	}
	for _, s := range append(wrongSigns(), append(marks(), "(", ")", "0", "5", "-5", "''", "'a'")...) {
		if impl.NameOk(s) {
			t.Errorf("%q is no name", s)
		}
	}
}

func TestSignOk(t *testing.T) {
	for _, s := range rightSigns() {
		if !impl.SignOk(s) {
			t.Errorf("%q is a sign", s)
		}
	}
	for _, s := range wrongSigns() {
		if impl.SignOk(s) {
			t.Errorf("%q is no sign", s)
		}
	}
}

func TestSignsWithEachByte(t *testing.T) {
	for c := range 256 {
		b := string([]byte{byte(c)})
		for _, s := range []string{b, "a" + b, b + "a", "abcdefg" + b, "1" + b, "-" + b, "-1" + b, "0" + b, b + "1", "12345678" + b, "'" + b + "'", "'a" + b, "'a'" + b, "a" + b + "a"} {
			if impl.SignOk(s) != isSign(s) {
				t.Errorf("SignOk(%q) is %v", s, impl.SignOk(s))
			}
			if impl.NameOk(s) != nameForm.MatchString(s) {
				t.Errorf("NameOk(%q) is %v", s, impl.NameOk(s))
			}
			if _, is := impl.ReadNumber(s); is != numberForm.MatchString(s) {
				t.Errorf("ReadNumber(%q) answers %v", s, is)
			}
			checkCut(t, s)
		}
	}
}

func TestReadNumber(t *testing.T) {
	for _, n := range rightNumbers() {
		s := strconv.FormatInt(n, 10)
		if got, is := impl.ReadNumber(s); got != n || !is {
			t.Errorf("ReadNumber(%q) = %d, %v", s, got, is)
		}
	}
	for _, s := range writtenNumbers() {
		n, err := strconv.ParseInt(s, 10, 64)
		if got, is := impl.ReadNumber(s); got != n || !is || err != nil {
			t.Errorf("ReadNumber(%q) = %d, %v", s, got, is)
		}
	}
	wrong := append(wrongSigns(), append(marks(), "(", ")", "a", "none", "''", "'1'")...)
	wrong = append(wrong, strconv.FormatInt(math.MaxInt64, 10), strconv.FormatInt(math.MinInt64, 10))
	for _, s := range wrong {
		if n, is := impl.ReadNumber(s); n != 0 || is {
			t.Errorf("ReadNumber(%q) = %d, %v", s, n, is)
		}
	}
}

func TestSignOf(t *testing.T) {
	check := func(v impl.Value, want string) {
		if s := impl.SignOf(v); s != want {
			t.Errorf("SignOf(%#v) = %q; want %q", v, s, want)
		}
	}
	check(impl.Value{}, "none")
	for _, n := range rightNumbers() {
		check(number(n), strconv.FormatInt(n, 10))
	}
	for _, s := range rightTexts() {
		check(text(s), "'"+s+"'")
	}
	for _, v := range append(places(), wrongValues()...) {
		check(v, "")
	}
}

func TestValueIn(t *testing.T) {
	check := func(s string, want impl.Value, wantIs bool) {
		if v, is := impl.ValueIn(s); v != want || is != wantIs {
			t.Errorf("ValueIn(%q) = %#v, %v; want %#v, %v", s, v, is, want, wantIs)
		}
	}
	check("none", impl.Value{}, true)
	check("0", number(0), true)
	check("-5", number(-5), true)
	check("-999999999", number(-greatest), true)
	check("''", text(""), true)
	check("'none'", text("none"), true)
	check("'-5'", text("-5"), true)
	check("' a b '", text(" a b "), true)
	for _, s := range append(wrongSigns(), append(marks(), "(", ")", "a", "non", "nones", "None", "none ", "let")...) {
		check(s, impl.Value{}, false)
	}
}

func TestValueInAndSignOfGoBackAndForth(t *testing.T) {
	for _, v := range allValues() {
		s := impl.SignOf(v)
		if s == "" {
			continue
		}
		if back, is := impl.ValueIn(s); back != v || !is || !impl.SignOk(s) {
			t.Errorf("%#v is %q, and back %#v, %v", v, s, back, is)
		}
	}
	for _, s := range append(rightSigns(), wrongSigns()...) {
		if v, is := impl.ValueIn(s); is && impl.SignOf(v) != s {
			t.Errorf("%q is %#v, and back %q", s, v, impl.SignOf(v))
		}
	}
}

// cutSlowly tells the signs of a page in another way than the program does: each
// second piece between two ' is a text.
func cutSlowly(s string) ([]string, bool) {
	if len(s) > impl.MaxPage {
		return nil, false
	}
	var out []string
	pieces := strings.Split(s, "'")
	for i, piece := range pieces {
		if i%2 == 1 {
			out = append(out, "'"+piece+"'")
			continue
		}
		spaced := strings.NewReplacer("(", " ( ", ")", " ) ").Replace(piece)
		out = append(out, strings.FieldsFunc(spaced, func(r rune) bool { return r == ' ' || r == '\n' })...)
	}
	if len(pieces)%2 == 0 || len(out) > impl.MaxSigns {
		return nil, false
	}
	for _, sign := range out {
		if !isSign(sign) {
			return nil, false
		}
	}
	return out, true
}

func short(s string) string {
	if len(s) > 100 {
		return fmt.Sprintf("%q .. of %d bytes", s[:100], len(s))
	}
	return fmt.Sprintf("%q", s)
}

func checkCut(t *testing.T, s string) {
	t.Helper()
	want, wantIs := cutSlowly(s)
	got, is := impl.SignsOf(s)
	if is != wantIs || !slices.Equal(got, want) {
		t.Errorf("SignsOf(%s): %d signs, %v; want %d, %v", short(s), len(got), is, len(want), wantIs)
	}
}

func TestSignsOfAnswers(t *testing.T) {
	longest := "'" + strings.Repeat("q", impl.MaxText) + "'"
	cases := []struct {
		page string
		want []string
	}{
		{"", nil},
		{" ", nil},
		{"\n", nil},
		{" \n \n\n  ", nil},
		{"a", []string{"a"}},
		{"  a \n\n b\n", []string{"a", "b"}},
		{"\na\nb ", []string{"a", "b"}},
		{"(say (& 'a b' -5))\n(x1)", []string{"(", "say", "(", "&", "'a b'", "-5", ")", ")", "(", "x1", ")"}},
		{"()", []string{"(", ")"}},
		{")(", []string{")", "("}},
		{"( )", []string{"(", ")"}},
		{"a(b)c", []string{"a", "(", "b", ")", "c"}},
		{"1(2)3", []string{"1", "(", "2", ")", "3"}},
		{"+(-)*", []string{"+", "(", "-", ")", "*"}},
		{"a'b'c", []string{"a", "'b'", "c"}},
		{"1'b'2", []string{"1", "'b'", "2"}},
		{"+''-", []string{"+", "''", "-"}},
		{"''''", []string{"''", "''"}},
		{"'a''b'", []string{"'a'", "'b'"}},
		{"('a')", []string{"(", "'a'", ")"}},
		{"' '", []string{"' '"}},
		{"'  a  '", []string{"'  a  '"}},
		{"- 5", []string{"-", "5"}},
		{"-5", []string{"-5"}},
		{"0 -1 +", []string{"0", "-1", "+"}},
		{"abcdefgh 999999999 -999999999", []string{"abcdefgh", "999999999", "-999999999"}},
		{longest + longest, []string{longest, longest}},
	}
	for _, c := range cases {
		if l, is := impl.SignsOf(c.page); !is || !slices.Equal(l, c.want) {
			t.Errorf("SignsOf(%q) = %q, %v; want %q", c.page, l, is, c.want)
		}
	}
}

func TestSignsOfWrongPages(t *testing.T) {
	wrong := []string{
		"A", "a\tb", "a\rb", "\x00", "é", "a_b", "1a", "a1b2c3d4e", "abcdefghi", "007", "-0", "1000000000", "-1000000000",
		"'", "'a", "a'", "'a' '", "'''", "'A'", "'a\nb'", "'\n'", "'(a)'", "'a_b'", "'" + strings.Repeat("q", impl.MaxText+1) + "'",
		"+1", "a+b", "++", "--1", "<=", "=-", "1-2", "a-b", "-a", "(+1 2)", "a,b", "a;", "(say A)", "(say 'a)", "a b c D",
	}
	for _, bad := range wrong {
		for _, s := range []string{bad, " " + bad, bad + " ", "(" + bad + ")", "ok " + bad, bad + " ok", "\n" + bad + "\n"} {
			if l, is := impl.SignsOf(s); is || len(l) != 0 {
				t.Errorf("SignsOf(%q) = %q, %v", s, l, is)
			}
		}
	}
}

func TestSignsOfAllShortPages(t *testing.T) {
	const letters = "()' \na05-+A"
	pages := []string{""}
	for range 5 {
		var longer []string
		for _, s := range pages {
			for i := range len(letters) {
				longer = append(longer, s+letters[i:i+1])
			}
		}
		for _, s := range longer {
			checkCut(t, s)
			if impl.SignOk(s) != isSign(s) {
				t.Errorf("SignOk(%q) is %v", s, impl.SignOk(s))
			}
		}
		if t.Failed() {
			return
		}
		pages = longer
	}
}

func TestSignsOfLimits(t *testing.T) {
	for _, sign := range []string{"(", "a ", " a", "''", "'a'", "-1 "} {
		for _, n := range []int{impl.MaxSigns - 1, impl.MaxSigns, impl.MaxSigns + 1} {
			l, is := impl.SignsOf(strings.Repeat(sign, n))
			if is != (n <= impl.MaxSigns) || is && len(l) != n || !is && len(l) != 0 {
				t.Errorf("%d times %q: %d signs, %v", n, sign, len(l), is)
			}
		}
	}
	for _, sign := range []string{"", "a", "'a'", "("} {
		for _, n := range []int{impl.MaxPage - 1, impl.MaxPage, impl.MaxPage + 1} {
			blanks := strings.Repeat(" ", n-len(sign))
			for _, s := range []string{blanks + sign, sign + blanks, strings.ReplaceAll(blanks, " ", "\n") + sign} {
				l, is := impl.SignsOf(s)
				if is != (n <= impl.MaxPage) || is && strings.Join(l, "") != sign || !is && len(l) != 0 {
					t.Errorf("%d bytes with %q: %d signs, %v", n, sign, len(l), is)
				}
			}
		}
	}
	for _, c := range []string{"a", "'", "-", "0", "A", "q'"} {
		checkCut(t, strings.Repeat(c, impl.MaxPage/len(c)))
		checkCut(t, strings.Repeat(c, impl.MaxPage+1))
	}
}

func TestShowSignsAnswers(t *testing.T) {
	cases := []struct {
		signs []string
		want  string
	}{
		{nil, ""},
		{[]string{}, ""},
		{[]string{"a"}, "a"},
		{[]string{"("}, "("},
		{[]string{")"}, ")"},
		{[]string{"(", ")"}, "()"},
		{[]string{")", "("}, ") ("},
		{[]string{"(", "("}, "(("},
		{[]string{")", ")"}, "))"},
		{[]string{"a", "("}, "a ("},
		{[]string{"(", "a"}, "(a"},
		{[]string{"a", ")"}, "a)"},
		{[]string{")", "a"}, ") a"},
		{[]string{"'a'", "'b'"}, "'a' 'b'"},
		{[]string{"''", "''"}, "'' ''"},
		{[]string{"-", "5"}, "- 5"},
		{[]string{"(", "say", "(", "&", "'a b'", "-5", ")", ")", "(", "x1", ")"}, "(say (& 'a b' -5)) (x1)"},
		{[]string{""}, ""},
		{[]string{"a", "", "b"}, ""},
		{[]string{"A"}, ""},
		{[]string{"a", "b", "C"}, ""},
		{[]string{"A", "b", "c"}, ""},
		{[]string{"a b"}, ""},
		{[]string{"()"}, ""},
		{[]string{"'a"}, ""},
	}
	for _, c := range cases {
		if s := impl.ShowSigns(c.signs); s != c.want {
			t.Errorf("ShowSigns(%q) = %q; want %q", c.signs, s, c.want)
		}
	}
	for _, s := range wrongSigns() {
		for _, l := range [][]string{{s}, {"a", s}, {s, "a"}, {"(", s, ")"}} {
			if got := impl.ShowSigns(l); got != "" {
				t.Errorf("ShowSigns(%q) = %q", l, got)
			}
		}
	}
}

// ShowSigns has no limit of its own: it shows what SignsOf would refuse.
func TestShowSignsOfMany(t *testing.T) {
	l := slices.Repeat([]string{"abcdefgh"}, 2*impl.MaxSigns+1000)
	if s := impl.ShowSigns(l); s != strings.Join(l, " ") {
		t.Errorf("%d signs are shown by %d bytes", len(l), len(s))
	}
}

func checkShown(t *testing.T, l []string) {
	t.Helper()
	shown := impl.ShowSigns(l)
	back, is := impl.SignsOf(shown)
	fits := len(l) <= impl.MaxSigns && len(shown) <= impl.MaxPage
	if is != fits || fits && !slices.Equal(back, l) || !fits && len(back) != 0 {
		t.Errorf("%d signs, shown %s, are %d signs, %v", len(l), short(shown), len(back), is)
	}
}

// Promise 2.
func TestSignsOfShowSignsAreTheSigns(t *testing.T) {
	checkShown(t, nil)
	signs := rightSigns()
	for _, a := range signs {
		checkShown(t, []string{a})
		for _, b := range signs {
			checkShown(t, []string{a, b})
		}
	}
	few := []string{"(", ")", "a", "-5", "7", "'a b'", "''", "-"}
	for _, a := range few {
		for _, b := range few {
			for _, c := range few {
				for _, d := range few {
					checkShown(t, []string{a, b, c, d})
				}
			}
		}
	}
	checkShown(t, slices.Concat(signs, signs, signs))
}

func TestSignsOfShowSignsAtTheLimits(t *testing.T) {
	for _, n := range []int{impl.MaxSigns - 1, impl.MaxSigns, impl.MaxSigns + 1} {
		checkShown(t, slices.Repeat([]string{"a"}, n))
		checkShown(t, slices.Repeat([]string{"("}, n))
	}
	longest := "'" + strings.Repeat("q", impl.MaxText) + "'"
	many := slices.Repeat([]string{longest}, 317)
	room := impl.MaxPage - len(strings.Join(many, " ")) - len(" ''")
	for _, n := range []int{room - 1, room, room + 1} {
		l := append(slices.Clone(many), "'"+strings.Repeat("q", n)+"'")
		if len(impl.ShowSigns(l)) != impl.MaxPage+n-room {
			t.Errorf("a text of %d bytes behind 317: %d bytes", n, len(impl.ShowSigns(l)))
		}
		checkShown(t, l)
	}
}

// Promise 21, for the functions of chapter 2.
func TestShowSignsLeavesWhatIsGiven(t *testing.T) {
	for _, l := range [][]string{{"(", "a", ")"}, {"a", "A", "b"}, {}} {
		room := append(slices.Clone(l), "spare", "room")
		was := slices.Clone(room)
		impl.ShowSigns(room[:len(l)])
		if !slices.Equal(room, was) {
			t.Errorf("%q became %q", was, room)
		}
	}
}

func TestSignsOfAnswersNewMemory(t *testing.T) {
	first, _ := impl.SignsOf("(a b)")
	second, _ := impl.SignsOf("(a b)")
	for i := range first {
		first[i] = "x"
	}
	third, _ := impl.SignsOf("(a b)")
	want := []string{"(", "a", "b", ")"}
	if !slices.Equal(second, want) || !slices.Equal(third, want) {
		t.Errorf("%q, %q", second, third)
	}
}

// The line "sign" of the document's chapter Ways.
func TestBytesAreToldApartByLabels(t *testing.T) {
	if !hasBranch(t, "../impl/l02_sign.go", token.GOTO) {
		t.Error("no goto in the layer of the signs")
	}
}
