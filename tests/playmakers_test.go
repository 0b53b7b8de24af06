package tests

import (
	"math/rand/v2"
	"slices"
	"strconv"
	"strings"
)

// A playMaker makes plays that are Scoped, the same ones each time. What a name
// has is told by its first letter, most often: n a number, s a text, t a thing,
// f a fn that says a number back, m a table; p is hidden. Those that are ready
// are no longer none there.
type playMaker struct {
	rand    *rand.Rand
	names   []string
	ready   []string
	hiddens []string
	inLoop  bool
	depth   int
}

func newPlayMaker(seed uint64) *playMaker {
	return &playMaker{rand: rand.New(rand.NewPCG(seed, 10))}
}

func (m *playMaker) one(of ...string) string { return of[m.rand.IntN(len(of))] }

func (m *playMaker) chance(percent int) bool { return m.rand.IntN(100) < percent }

// within makes something with more names known, and forgets them again.
func (m *playMaker) within(names []string, hiddens []string, inLoop bool, make func() string) string {
	was := *m
	m.names = slices.Concat(m.names, names)
	m.ready = slices.DeleteFunc(slices.Clone(m.ready), func(name string) bool { return slices.Contains(names, name) })
	m.hiddens = slices.Concat(m.hiddens, hiddens)
	m.inLoop = inLoop
	m.depth++
	out := make()
	*m = was
	return out
}

func (m *playMaker) nameFor(letter string) string { return letter + strconv.Itoa(m.rand.IntN(3)) }

// known is a name that is known, of that letter, most often one that is ready;
// empty where there is none.
func (m *playMaker) known(letter string) string {
	from := m.ready
	if m.chance(2) {
		from = m.names
	}
	var of []string
	for _, name := range from {
		if strings.HasPrefix(name, letter) {
			of = append(of, name)
		}
	}
	if len(of) == 0 {
		return ""
	}
	return m.one(of...)
}

func (m *playMaker) play() string { return m.block(4 + m.rand.IntN(7)) }

// block chooses who is declared ahead of making the deeds: all of them are known
// in all of it.
func (m *playMaker) block(count int) string {
	var heads, names, hiddens []string
	for range count {
		head := m.one("let", "let", "let", "take", "hidden", "", "", "", "", "")
		name := m.nameFor(m.one("n", "n", "s", "t", "t", "f", "f", "m"))
		switch {
		case head == "hidden" && !slices.Contains(hiddens, "p"+name[1:]):
			hiddens = append(hiddens, "p"+name[1:])
			heads = append(heads, "(hidden "+hiddens[len(hiddens)-1]+")")
		case (head == "let" || head == "take") && !slices.Contains(names, name):
			names = append(names, name)
			heads = append(heads, head+" "+name)
		default:
			heads = append(heads, "")
		}
	}
	return m.within(names, hiddens, m.inLoop, func() string {
		var out []string
		for _, head := range heads {
			word, name, _ := strings.Cut(head, " ")
			switch word {
			case "let":
				out = append(out, "(let "+name+" "+m.sum(name[:1])+")")
				m.ready = append(m.ready, name)
			case "take":
				out = append(out, "(take ("+name+") (thing "+m.sum(name[:1])+"))")
				m.ready = append(m.ready, name)
			case "":
				out = append(out, m.deed())
			default:
				out = append(out, head)
			}
		}
		return strings.Join(out, " ")
	})
}

func (m *playMaker) deed() string {
	if m.depth > 7 {
		return "(say " + m.sum("n") + ")"
	}
	name := m.known("")
	switch m.rand.IntN(18) {
	case 0, 1:
		if name != "" {
			return "(set " + name + " " + m.sum(name[:1]) + ")"
		}
	case 2:
		return "(do " + m.block(m.rand.IntN(5)) + ")"
	case 3, 4:
		return "(if " + m.sum("n") + " " + m.ruled(m.inLoop) + " " + m.ruled(m.inLoop) + ")"
	case 5:
		return m.loop()
	case 6, 7:
		return m.turns()
	case 8:
		return m.wayOut()
	case 9:
		return "(put " + m.sum("t") + " " + m.sum(m.one("n", "s")) + " " + m.sum("x") + ")"
	case 10:
		return "(run " + m.sum("x") + ")"
	case 11:
		if len(m.hiddens) > 0 {
			return "(hput " + m.one(m.hiddens...) + " " + m.sum("t") + " " + m.sum("x") + ")"
		}
	case 12:
		return "(tput " + m.sum("m") + " " + m.sum("t") + " " + m.sum("x") + ")"
	}
	return "(say " + m.sum(m.one("n", "n", "s", "s", "v")) + ")"
}

func (m *playMaker) ruled(inLoop bool) string {
	return m.within(nil, nil, inLoop, func() string {
		if m.chance(60) {
			return "(do " + m.block(m.rand.IntN(5)) + ")"
		}
		return m.deed()
	})
}

func (m *playMaker) turns() string {
	turn := m.nameFor("n")
	from, below := m.sum("n"), m.sum("n")
	if m.chance(60) {
		from, below = m.one("0", "-1", "1"), m.one("2", "3", "4", "250")
	}
	return "(for " + turn + " " + from + " " + below + " " + m.within([]string{turn}, nil, true, func() string {
		m.ready = append(m.ready, turn)
		return m.ruled(true)
	}) + ")"
}

// loop most often ends by itself.
func (m *playMaker) loop() string {
	if name := m.known("n"); name != "" && m.chance(80) {
		inside := m.within(nil, nil, true, func() string { return m.block(m.rand.IntN(4)) })
		return "(while (< " + name + " " + strconv.Itoa(m.rand.IntN(6)) + ") (do (set " + name + " (+ " + name + " 1)) (do " + inside + ")))"
	}
	return "(while " + m.sum("n") + " " + m.ruled(true) + ")"
}

func (m *playMaker) wayOut() string {
	if m.inLoop && m.chance(80) {
		return "(if " + m.sum("n") + " " + m.one("(leave)", "(next)") + " (do))"
	}
	return "(if " + m.sum("n") + " (back " + m.sum("n") + ") (do))"
}

// sum is of the kind that the letter tells, x whatever, v what is kept at a
// place.
func (m *playMaker) sum(letter string) string {
	if m.chance(1) {
		letter = m.one("n", "s", "t", "f", "m", "x")
	}
	if letter == "x" {
		letter = m.one("n", "n", "s", "t", "f", "m", "v")
	}
	if name := m.known(letter); name != "" && (m.depth > 8 || m.chance(60)) {
		return name
	}
	if m.depth > 8 || m.chance(25) {
		return m.shortSum(letter)
	}
	return m.within(nil, nil, false, func() string { return m.longSum(letter) })
}

func (m *playMaker) shortSum(letter string) string {
	switch letter {
	case "n":
		return m.one("0", "1", "2", "3", "-1", "7", "999999999")
	case "s":
		return m.one("''", "'a'", "'b c'", "(join)")
	case "t":
		return "(thing)"
	case "f":
		return "(fn ((n0 1)) (back n0))"
	case "m":
		return "(table)"
	}
	return "none"
}

func (m *playMaker) longSum(letter string) string {
	switch letter {
	case "n":
		if m.chance(30) {
			return "(call " + m.sum("f") + m.numbers(m.rand.IntN(3)) + ")"
		}
		if m.chance(10) {
			return "(= " + m.sum("x") + " " + m.sum("x") + ")"
		}
		return "(" + m.one("+", "+", "-", "*", "<", "<") + " " + m.sum("n") + " " + m.sum("n") + ")"
	case "s":
		return m.one("(join"+m.texts(m.rand.IntN(4))+")", "(& "+m.sum("s")+" "+m.sum("n")+")")
	case "t":
		return "(thing" + m.numbers(m.rand.IntN(4)) + ")"
	case "f":
		return m.function()
	case "m":
		return "(table)"
	}
	return m.placed()
}

// placed is what is kept at a place, where there is something.
func (m *playMaker) placed() string {
	thing := m.sum("t")
	switch {
	case m.chance(60):
		return "(get " + thing + " " + m.sum(m.one("n", "s")) + ")"
	case len(m.hiddens) > 0 && m.chance(60):
		return "(hget " + m.one(m.hiddens...) + " " + thing + ")"
	}
	return "(tget " + m.sum("m") + " " + thing + ")"
}

func (m *playMaker) numbers(count int) string {
	out := ""
	for range count {
		out += " " + m.sum("n")
	}
	return out
}

func (m *playMaker) texts(count int) string {
	out := ""
	for range count {
		out += " " + m.sum(m.one("n", "s"))
	}
	return out
}

func (m *playMaker) function() string {
	var names []string
	for range m.rand.IntN(4) {
		if name := m.nameFor("n"); !slices.Contains(names, name) {
			names = append(names, name)
		}
	}
	return m.within(names, nil, false, func() string {
		var params []string
		given := false
		for _, name := range names {
			param := name
			if m.chance(80) {
				given = true
				param = "(" + name + " " + m.sum("n") + ")"
				m.ready = append(m.ready, name)
			}
			params = append(params, param)
		}
		return "(fn (" + strings.Join(params, " ") + ") " + m.functionDeeds(given) + ")"
	})
}

func (m *playMaker) functionDeeds(given bool) string {
	if !given && m.chance(30) {
		return m.within([]string{"n1", "f1"}, nil, false, func() string {
			return "(vars n1 f1) (set n1 " + m.sum("n") + ") (say n1) (back " + m.sum("n") + ")"
		})
	}
	return m.block(m.rand.IntN(4)) + " (back " + m.sum("n") + ")"
}

// madePlays are so many plays, each of not too many signs.
func madePlays(count int) [][]string {
	var out [][]string
	for seed := uint64(0); len(out) < count; seed++ {
		page := newPlayMaker(seed).play()
		if l, is := cutSlowly(page); is && len(l) < 400 {
			out = append(out, l)
		}
	}
	return out
}

// A bearer is one who is declared under a name, and in which scope: a block, a
// turn of a for, or the PARAMs of a fn.
type bearer struct {
	name   string
	secret bool
	scope  int
}

// An alpha tells of each place of a play that has a NAME which bearer that is, and
// of each scope who is used in it that is declared around it.
type alpha struct {
	l       []string
	at      int
	bearers []bearer
	who     map[int]int
	used    map[int]map[int]int
	around  []int
	scopes  int
}

func alphaOf(l []string) *alpha {
	a := &alpha{l: l, who: map[int]int{}, used: map[int]map[int]int{}}
	end := len(l)
	a.inScope(func() {
		a.declareDeeds(0, end)
		a.goThrough(end)
	})
	return a
}

func (a *alpha) inScope(do func()) {
	a.around = append(a.around, a.scopes)
	a.used[a.scopes] = map[int]int{}
	a.scopes++
	do()
	a.around = a.around[:len(a.around)-1]
}

func (a *alpha) declare(at int, secret bool) {
	a.who[at] = len(a.bearers)
	a.bearers = append(a.bearers, bearer{a.l[at], secret, a.around[len(a.around)-1]})
}

func (a *alpha) use(at int, secret bool) {
	for depth, scope := range slices.Backward(a.around) {
		for n, b := range a.bearers {
			if b.scope == scope && b.name == a.l[at] && b.secret == secret {
				a.who[at] = n
				for _, inner := range a.around[depth+1:] {
					a.used[inner][n]++
				}
				return
			}
		}
	}
}

func (a *alpha) endAt(at int) int {
	end, _, _ := itemSlowly(a.l, int64(at))
	return int(end)
}

// declareDeeds goes through deeds of a block without going into them.
func (a *alpha) declareDeeds(from int, to int) {
	for at := from; at < to; at = a.endAt(at) {
		end := a.endAt(at) - 1
		switch a.l[at+1] {
		case "let":
			a.declare(at+2, false)
		case "take":
			a.declareAll(at+3, a.endAt(at+2)-1, false)
		case "vars":
			a.declareAll(at+2, end, false)
		case "hidden":
			a.declareAll(at+2, end, true)
		}
	}
}

func (a *alpha) declareAll(from int, to int, secret bool) {
	for at := from; at < to; at++ {
		a.declare(at, secret)
	}
}

func (a *alpha) goThrough(to int) {
	for a.at < to {
		a.goInto()
	}
}

// goInto goes through the item that begins where it is.
func (a *alpha) goInto() {
	end := a.endAt(a.at)
	if a.l[a.at] != "(" {
		if isName(tree{sign: a.l[a.at]}) {
			a.use(a.at, false)
		}
		a.at = end
		return
	}
	head := a.l[a.at+1]
	a.at += 2
	switch head {
	case "hidden", "vars":
		a.at = end
	case "let":
		a.at++
	case "take":
		a.at = a.endAt(a.at)
	case "set":
		a.use(a.at, false)
		a.at++
	case "hget", "hput":
		a.use(a.at, true)
		a.at++
	case "for":
		a.goIntoFor()
	case "fn":
		a.goIntoFunction(end - 1)
	case "do":
		a.inScope(func() {
			a.declareDeeds(a.at, end-1)
			a.goThrough(end - 1)
		})
	}
	a.goThrough(end - 1)
	a.at = end
}

func (a *alpha) goIntoFor() {
	name := a.at
	a.at++
	a.goInto()
	a.goInto()
	a.inScope(func() {
		a.declare(name, false)
		a.goInto()
	})
}

func (a *alpha) goIntoFunction(end int) {
	a.inScope(func() {
		params := a.endAt(a.at) - 1
		var given []int
		for at := a.at + 1; at < params; at = a.endAt(at) {
			if a.l[at] == "(" {
				a.declare(at+1, false)
				given = append(given, at+2)
				continue
			}
			a.declare(at, false)
		}
		for _, at := range given {
			a.at = at
			a.goInto()
		}
		a.at = params + 1
		a.inScope(func() {
			a.declareDeeds(a.at, end)
			a.goThrough(end)
		})
	})
}

// called is the play with another name for each bearer.
func (a *alpha) called(name func(n int) string) []string {
	out := slices.Clone(a.l)
	for at, n := range a.who {
		out[at] = name(n)
	}
	return out
}

// apart gives no name twice.
func (a *alpha) apart() []string {
	return a.called(func(n int) string { return "w" + strconv.Itoa(n) })
}

// crowded gives each bearer the first name out of few that it may have: names
// that are known around there, too, as long as nobody asks for those within.
func (a *alpha) crowded() []string {
	names := map[int]string{}
	for n, b := range a.bearers {
		free := func(name string) bool {
			for other, is := range names {
				if is == name && a.bearers[other].secret == b.secret && (a.bearers[other].scope == b.scope || a.used[b.scope][other] > 0) {
					return false
				}
			}
			return true
		}
		for number := 0; names[n] == ""; number++ {
			if name := "c" + strconv.Itoa(number); free(name) {
				names[n] = name
			}
		}
	}
	return a.called(func(n int) string { return names[n] })
}
