package tests

import (
	"slices"
	"strings"

	"loop.example/g00544/impl"
)

// The document's words about sums and deeds, as they stand there: the tests
// hold the program against these, not against itself. X .. is any number of X,
// none too, so that one at least is X X .. here.
func sumForms() []string {
	return []string{
		"(+ SUM SUM)", "(- SUM SUM)", "(* SUM SUM)", "(< SUM SUM)", "(= SUM SUM)", "(& SUM SUM)",
		"(fn (PARAM ..) DEED ..)", "(call SUM SUM ..)", "(thing SUM ..)", "(get SUM SUM)", "(join SUM ..)",
		"(table)", "(tget SUM SUM)", "(hget NAME SUM)",
	}
}

// declaringForms stand in a play, a do and a fn alone.
func declaringForms() []string {
	return []string{"(let NAME SUM)", "(take (NAME NAME ..) SUM)", "(hidden NAME ..)", "(vars NAME ..)"}
}

// otherDeedForms have RULED where the document has the DEED of an if, a while
// or a for.
func otherDeedForms() []string {
	return []string{
		"(set NAME SUM)", "(do DEED ..)", "(if SUM RULED RULED)", "(while SUM RULED)", "(for NAME SUM SUM RULED)",
		"(say SUM)", "(back SUM)", "(leave)", "(next)", "(put SUM SUM SUM)", "(run SUM)", "(hput NAME SUM SUM)", "(tput SUM SUM SUM)",
	}
}

func deedForms() []string { return append(declaringForms(), otherDeedForms()...) }

func reservedWords() []string {
	return []string{
		"none", "fn", "call", "thing", "get", "join", "table", "tget", "hget",
		"let", "take", "hidden", "vars", "set", "do", "if", "while", "for", "say", "back", "leave", "next", "put", "run", "hput", "tput",
	}
}

// A tree is one item: a sign, or what stands between ( and ).
type tree struct {
	sign   string
	isList bool
	within []tree
}

func (n tree) head() string {
	if len(n.within) == 0 {
		return ""
	}
	return n.within[0].sign
}

// treeAt reads the item that begins there, and the place behind it.
func treeAt(l []string, at int64) (tree, int64) {
	end, _, within := itemSlowly(l, at)
	if end < 0 {
		return tree{}, -1
	}
	out := tree{sign: l[at], isList: l[at] == "("}
	for _, begin := range within {
		inner, _ := treeAt(l, begin)
		out.within = append(out.within, inner)
	}
	return out, end
}

// wordsOf are a form's words, whose NAME, SUM and so on are no signs.
func wordsOf(form string) []string {
	return strings.Fields(strings.NewReplacer("(", " ( ", ")", " ) ").Replace(form))
}

func formTree(form string) tree {
	stack := [][]tree{nil}
	for _, word := range wordsOf(form) {
		last := len(stack) - 1
		switch word {
		case "(":
			stack = append(stack, nil)
		case ")":
			list := tree{sign: "(", isList: true, within: stack[last]}
			stack = stack[:last]
			stack[last-1] = append(stack[last-1], list)
		default:
			stack[last] = append(stack[last], tree{sign: word})
		}
	}
	return stack[0][0]
}

func formTrees(forms []string) []tree {
	var out []tree
	for _, form := range forms {
		out = append(out, formTree(form))
	}
	return out
}

var (
	sumTrees       = formTrees(sumForms())
	declaringTrees = formTrees(declaringForms())
	otherDeedTrees = formTrees(otherDeedForms())
	pairTree       = formTree("(NAME SUM)")
)

func isName(n tree) bool {
	return !n.isList && nameForm.MatchString(n.sign) && !slices.Contains(reservedWords(), n.sign)
}

func isOneOf(n tree, forms []tree) bool {
	return slices.ContainsFunc(forms, func(form tree) bool { return fitsWord(form, n) })
}

func isSum(n tree) bool {
	if n.isList {
		return isOneOf(n, sumTrees)
	}
	return isName(n) || n.sign == "none" || numberForm.MatchString(n.sign) || textForm.MatchString(n.sign)
}

func isRuled(n tree) bool { return n.isList && isOneOf(n, otherDeedTrees) }

func isDeed(n tree) bool { return isRuled(n) || n.isList && isOneOf(n, declaringTrees) }

func fitsWord(word tree, n tree) bool {
	if word.isList {
		return n.isList && fitWords(word.within, n.within)
	}
	switch word.sign {
	case "NAME":
		return isName(n)
	case "SUM":
		return isSum(n)
	case "DEED":
		return isDeed(n)
	case "RULED":
		return isRuled(n)
	case "PARAM":
		return isName(n) || n.isList && fitsWord(pairTree, n)
	}
	return !n.isList && n.sign == word.sign
}

func fitWords(words []tree, items []tree) bool {
	if len(words) == 0 {
		return len(items) == 0
	}
	if len(words) > 1 && words[1].sign == ".." {
		return fitWords(words[2:], items) || len(items) > 0 && fitsWord(words[0], items[0]) && fitWords(words, items[1:])
	}
	return len(items) > 0 && fitsWord(words[0], items[0]) && fitWords(words[1:], items[1:])
}

func sumSlowly(l []string, at int64) int64 {
	if n, end := treeAt(l, at); end >= 0 && isSum(n) {
		return end
	}
	return -1
}

func deedSlowly(l []string, at int64) int64 {
	if n, end := treeAt(l, at); end >= 0 && isDeed(n) {
		return end
	}
	return -1
}

func playSlowly(l []string) bool {
	at := int64(0)
	for at < int64(len(l)) {
		_, depth, _ := itemSlowly(l, at)
		at = deedSlowly(l, at)
		if at < 0 || depth > impl.MaxDepth {
			return false
		}
	}
	return len(l) <= impl.MaxSigns
}

func headsIn(n tree, head string) int64 {
	count := int64(0)
	if n.isList && len(n.within) > 0 && n.head() == head {
		count++
	}
	for _, inner := range n.within {
		count += headsIn(inner, head)
	}
	return count
}

func countSlowly(l []string, head string) int64 {
	if !playSlowly(l) {
		return -1
	}
	count := int64(0)
	for at := int64(0); at < int64(len(l)); {
		n, end := treeAt(l, at)
		count += headsIn(n, head)
		at = end
	}
	return count
}

// filled is a form with a right one in each of its places, so that every form
// stands in the tests as often as the document names it.
func filled(form string) string {
	return strings.NewReplacer("NAME ..", "x y", "SUM ..", "7 'b'", "DEED ..", "(let c 1) (leave)", "PARAM ..", "d (e none)",
		"NAME", "a", "SUM", "(+ a 1)", "RULED", "(do (vars f) (say f))").Replace(form)
}
