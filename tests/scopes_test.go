package tests

import "slices"

// The document's words about who is known where, as they stand there: the tests
// hold the program against these. The program goes down into a play and keeps
// what is known; this goes up from each NAME and looks for who declares it.

// A step is an item and which of its parts is gone into: the way from the play
// down to a place is some steps, of which the first one is the play itself.
type step struct {
	of   tree
	part int
}

// playTree is the whole play as if it were a (do DEED ..), by a head of its own.
func playTree(l []string) tree {
	out := tree{isList: true, within: []tree{{sign: "PLAY"}}}
	for at := int64(0); at < int64(len(l)); {
		deed, end := treeAt(l, at)
		out.within = append(out.within, deed)
		at = end
	}
	return out
}

// blockOf are the deeds of a play, of a do, or of a fn, and nothing of others.
func blockOf(n tree) []tree {
	switch n.head() {
	case "PLAY", "do":
		return n.within[1:]
	case "fn":
		return n.within[2:]
	}
	return nil
}

func signsIn(list []tree) []string {
	var out []string
	for _, n := range list {
		out = append(out, n.sign)
	}
	return out
}

func declaredSlowly(deeds []tree) []string {
	var out []string
	for _, deed := range deeds {
		switch deed.head() {
		case "let":
			out = append(out, deed.within[1].sign)
		case "take":
			out = append(out, signsIn(deed.within[1].within)...)
		case "vars":
			out = append(out, signsIn(deed.within[1:])...)
		}
	}
	return out
}

func hiddenSlowly(deeds []tree) []string {
	var out []string
	for _, deed := range deeds {
		if deed.head() == "hidden" {
			out = append(out, signsIn(deed.within[1:])...)
		}
	}
	return out
}

func paramsSlowly(fn tree) []string {
	var out []string
	for _, param := range fn.within[1].within {
		if param.isList {
			param = param.within[0]
		}
		out = append(out, param.sign)
	}
	return out
}

func hasPairs(fn tree) bool {
	return slices.ContainsFunc(fn.within[1].within, func(param tree) bool { return param.isList })
}

// knownFrom are the names that a step declares for the part that is gone into.
func knownFrom(s step, secret bool) []string {
	var out []string
	isFn := s.of.head() == "fn"
	if !isFn || s.part >= 2 {
		if secret {
			return hiddenSlowly(blockOf(s.of))
		}
		out = declaredSlowly(blockOf(s.of))
	}
	if isFn && !secret {
		out = append(out, paramsSlowly(s.of)...)
	}
	if s.of.head() == "for" && s.part == 4 && !secret {
		out = append(out, s.of.within[1].sign)
	}
	return out
}

func knownAt(way []step, name string, secret bool) bool {
	return slices.ContainsFunc(way, func(s step) bool { return slices.Contains(knownFrom(s, secret), name) })
}

// mentionsIn calls for each NAME in a sum and of a set, and, as secret, for each
// one of hget and hput, with the way to it.
func mentionsIn(n tree, way []step, tell func(way []step, name string, secret bool)) {
	if !n.isList {
		if isName(n) {
			tell(way, n.sign, false)
		}
		return
	}
	into := func(part int, inner tree) { mentionsIn(inner, append(slices.Clip(way), step{n, part}), tell) }
	first := 1
	switch n.head() {
	case "hget", "hput":
		tell(way, n.within[1].sign, true)
		first = 2
	case "let", "take", "for":
		first = 2
	case "fn":
		for _, param := range n.within[1].within {
			if param.isList {
				into(1, param.within[1])
			}
		}
		first = 2
	case "hidden", "vars":
		return
	}
	for part := first; part < len(n.within); part++ {
		into(part, n.within[part])
	}
}

func unknownSlowly(play tree, wanted bool) []string {
	var out []string
	mentionsIn(play, nil, func(way []step, name string, secret bool) {
		if secret == wanted && !knownAt(way, name, secret) && !slices.Contains(out, name) {
			out = append(out, name)
		}
	})
	slices.Sort(out)
	return out
}

func hasTwice(names []string) bool {
	for n, name := range names {
		if slices.Contains(names[n+1:], name) {
			return true
		}
	}
	return false
}

// mayLeave asks whether the way leads into the DEED of a while or for with no fn
// behind that.
func mayLeave(way []step) bool {
	for _, s := range slices.Backward(way) {
		switch {
		case s.of.head() == "fn":
			return false
		case s.of.head() == "while" && s.part == 2, s.of.head() == "for" && s.part == 4:
			return true
		}
	}
	return false
}

func mayHaveVars(s step) bool {
	switch s.of.head() {
	case "PLAY":
		return s.part == 1
	case "fn":
		return s.part == 2 && !hasPairs(s.of)
	}
	return false
}

func flawless(n tree, way []step) bool {
	switch n.head() {
	case "leave", "next":
		return mayLeave(way)
	case "vars":
		return mayHaveVars(way[len(way)-1])
	case "fn":
		if hasTwice(paramsSlowly(n)) {
			return false
		}
	}
	if hasTwice(declaredSlowly(blockOf(n))) || hasTwice(hiddenSlowly(blockOf(n))) {
		return false
	}
	for part, inner := range n.within {
		if inner.isList && !flawless(inner, append(slices.Clip(way), step{n, part})) {
			return false
		}
	}
	return true
}

// A scopeAnswers is what the four functions of the chapter answer of one list.
type scopeAnswers struct {
	declared, free, secret []string
	scoped                 bool
}

func scopeSlowly(l []string) scopeAnswers {
	if !playSlowly(l) {
		return scopeAnswers{}
	}
	play := playTree(l)
	free, secret := unknownSlowly(play, false), unknownSlowly(play, true)
	return scopeAnswers{declaredSlowly(blockOf(play)), free, secret, len(free) == 0 && len(secret) == 0 && flawless(play, nil)}
}
