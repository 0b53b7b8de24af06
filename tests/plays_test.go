package tests

import (
	"slices"
	"strconv"
	"strings"

	"loop.example/g00544/impl"
)

// The document's words about the player, as they stand there: the tests hold
// the program against these. The program gives up by panic and finds its Values
// by their places; this keeps the fault and does nothing more, and its values
// are Go's own: nil for none, an int64, a string, and pointers.

type slowCell struct{ has any }

type slowThing struct{ slots map[any]any }

type slowTable struct{ rows map[*slowThing]any }

type slowFunc struct {
	fn     tree
	around *slowNames
}

// slowNames are those that one block, one turn or one call declares.
type slowNames struct {
	outer  *slowNames
	cells  map[string]*slowCell
	tables map[string]*slowTable
}

func (n *slowNames) inner() *slowNames {
	return &slowNames{n, map[string]*slowCell{}, map[string]*slowTable{}}
}

func (n *slowNames) cell(name string) *slowCell {
	if c := n.cells[name]; c != nil {
		return c
	}
	return n.outer.cell(name)
}

func (n *slowNames) table(name string) *slowTable {
	if t := n.tables[name]; t != nil {
		return t
	}
	return n.outer.table(name)
}

type slowPlayer struct {
	fuel int64
	show impl.Show
	made map[string]int
}

// A slowWay is how it goes on behind a deed: "" where the next one comes.
type slowWay struct {
	word string
	says any
}

func (p *slowPlayer) isOver() bool { return p.show.Fault != impl.FtNone }

func (p *slowPlayer) end(fault int64) any {
	if !p.isOver() {
		p.show.Fault = fault
	}
	return nil
}

// step says whether there is one more: behind a fault there is none.
func (p *slowPlayer) step() bool {
	if p.show.Steps == p.fuel {
		p.end(impl.FtFuel)
	}
	if p.isOver() {
		return false
	}
	p.show.Steps++
	return true
}

// room says whether one more may be made of these, of which there may be most.
func (p *slowPlayer) room(what string, most int) bool {
	if p.made[what] == most {
		p.end(impl.FtMany)
	}
	if p.isOver() {
		return false
	}
	p.made[what]++
	return true
}

func (p *slowPlayer) declare(names *slowNames, name string, has any) {
	if p.room("cell", 4000) {
		names.cells[name] = &slowCell{has}
	}
}

func (p *slowPlayer) block(deeds []tree, around *slowNames) slowWay {
	names := around.inner()
	for _, name := range declaredSlowly(deeds) {
		p.declare(names, name, nil)
	}
	for _, name := range hiddenSlowly(deeds) {
		if p.room("table", 200) {
			names.tables[name] = &slowTable{map[*slowThing]any{}}
		}
	}
	for _, deed := range deeds {
		if way := p.deed(deed, names); way.word != "" || p.isOver() {
			return way
		}
	}
	return slowWay{}
}

func (p *slowPlayer) deed(n tree, at *slowNames) slowWay {
	if !p.step() {
		return slowWay{}
	}
	switch n.head() {
	case "do":
		return p.block(blockOf(n), at)
	case "if":
		switch p.isTrue(n.within[1], at) {
		case "y":
			return p.deed(n.within[2], at)
		case "n":
			return p.deed(n.within[3], at)
		}
	case "while":
		for p.isTrue(n.within[1], at) == "y" {
			if way := p.deed(n.within[2], at); way.word != "" && way.word != "next" {
				return behindSlowly(way)
			}
		}
	case "for":
		return p.turns(n, at)
	case "leave", "next":
		return slowWay{word: n.head()}
	case "back":
		return slowWay{"back", p.sum(n.within[1], at)}
	default:
		p.plainDeed(n, at)
	}
	return slowWay{}
}

func behindSlowly(way slowWay) slowWay {
	if way.word == "leave" {
		return slowWay{}
	}
	return way
}

// isTrue is empty where there was a fault.
func (p *slowPlayer) isTrue(n tree, at *slowNames) string {
	v, is := p.sum(n, at).(int64)
	switch {
	case !is:
		p.end(impl.FtKind)
	case v != 0 && !p.isOver():
		return "y"
	case !p.isOver():
		return "n"
	}
	return ""
}

func (p *slowPlayer) turns(n tree, at *slowNames) slowWay {
	first, isFirst := p.sum(n.within[2], at).(int64)
	below, isBelow := p.sum(n.within[3], at).(int64)
	if !isFirst || !isBelow {
		p.end(impl.FtKind)
	}
	for i := first; i < below && !p.isOver(); i++ {
		turn := at.inner()
		p.declare(turn, n.within[1].sign, i)
		if way := p.deed(n.within[4], turn); way.word != "" && way.word != "next" {
			return behindSlowly(way)
		}
	}
	return slowWay{}
}

// plainDeed does what goes on behind it.
func (p *slowPlayer) plainDeed(n tree, at *slowNames) {
	var all []any
	for _, inner := range sumsOf(n) {
		all = append(all, p.sum(inner, at))
	}
	if p.isOver() {
		return
	}
	switch n.head() {
	case "let", "set":
		at.cell(n.within[1].sign).has = all[0]
	case "take":
		p.take(n, all[0], at)
	case "say":
		p.say(all[0])
	case "put":
		p.put(all)
	case "tput":
		p.tput(all)
	case "hput":
		p.tput(append([]any{at.table(n.within[1].sign)}, all...))
	}
}

// sumsOf are the SUMs of a form that has no DEEDs and no PARAMs.
func sumsOf(n tree) []tree {
	switch n.head() {
	case "hidden", "vars":
		return nil
	case "let", "set", "take", "hget", "hput":
		return n.within[2:]
	}
	return n.within[1:]
}

func (p *slowPlayer) take(n tree, from any, at *slowNames) {
	thing, is := from.(*slowThing)
	if !is {
		p.end(impl.FtKind)
		return
	}
	for key, name := range n.within[1].within {
		at.cell(name.sign).has = thing.slots[int64(key)]
	}
}

func (p *slowPlayer) say(v any) {
	text, is := textSlowly(v)
	if !is {
		p.end(impl.FtKind)
	} else if p.room("said", 200) {
		p.show.Said = append(p.show.Said, text)
	}
}

func isKey(v any) bool {
	switch v.(type) {
	case int64, string:
		return true
	}
	return false
}

func (p *slowPlayer) put(all []any) {
	thing, is := all[0].(*slowThing)
	if !is || !isKey(all[1]) {
		p.end(impl.FtKind)
		return
	}
	if _, is := thing.slots[all[1]]; !is && len(thing.slots) == 60 {
		p.end(impl.FtMany)
		return
	}
	thing.slots[all[1]] = all[2]
}

func (p *slowPlayer) tput(all []any) {
	table, isTable := all[0].(*slowTable)
	thing, isThing := all[1].(*slowThing)
	if !isTable || !isThing {
		p.end(impl.FtKind)
		return
	}
	table.rows[thing] = all[2]
}

func textSlowly(v any) (string, bool) {
	switch v := v.(type) {
	case nil:
		return "none", true
	case int64:
		return strconv.FormatInt(v, 10), true
	case string:
		return v, true
	}
	return "", false
}

func (p *slowPlayer) sum(n tree, at *slowNames) any {
	if !p.step() {
		return nil
	}
	switch {
	case !n.isList:
		return signSlowly(n.sign, at)
	case n.head() == "fn":
		if p.room("func", 1000) {
			return &slowFunc{n, at}
		}
		return nil
	case n.head() == "join":
		return p.join(n, at)
	}
	var all []any
	for _, inner := range sumsOf(n) {
		all = append(all, p.sum(inner, at))
	}
	if p.isOver() {
		return nil
	}
	if n.head() == "hget" {
		return p.tget(at.table(n.within[1].sign), all[0])
	}
	return p.formed(n.head(), all)
}

func signSlowly(sign string, at *slowNames) any {
	switch {
	case sign == "none":
		return nil
	case numberForm.MatchString(sign):
		n, _ := strconv.ParseInt(sign, 10, 64)
		return n
	case textForm.MatchString(sign):
		return strings.Trim(sign, "'")
	}
	return at.cell(sign).has
}

func (p *slowPlayer) formed(head string, all []any) any {
	switch head {
	case "call":
		return p.call(all)
	case "thing":
		return p.thing(all)
	case "get":
		thing, is := all[0].(*slowThing)
		if !is || !isKey(all[1]) {
			return p.end(impl.FtKind)
		}
		return thing.slots[all[1]]
	case "table":
		if p.room("table", 200) {
			return &slowTable{map[*slowThing]any{}}
		}
		return nil
	case "tget":
		return p.tget(all[0], all[1])
	case "=":
		return oneIf(all[0] == all[1])
	case "&":
		return p.joined(all[0], all[1])
	}
	return p.reckon(head, all)
}

func oneIf(is bool) any {
	if is {
		return int64(1)
	}
	return int64(0)
}

func (p *slowPlayer) reckon(head string, all []any) any {
	a, isA := all[0].(int64)
	b, isB := all[1].(int64)
	if !isA || !isB {
		return p.end(impl.FtKind)
	}
	out := map[string]int64{"+": a + b, "-": a - b, "*": a * b}[head]
	switch {
	case head == "<":
		return oneIf(a < b)
	case out < -greatest || out > greatest:
		return p.end(impl.FtOver)
	}
	return out
}

func (p *slowPlayer) joined(a any, b any) any {
	first, isFirst := textSlowly(a)
	second, isSecond := textSlowly(b)
	switch {
	case !isFirst || !isSecond:
		return p.end(impl.FtKind)
	case len(first+second) > 60:
		return p.end(impl.FtOver)
	}
	return first + second
}

func (p *slowPlayer) join(n tree, at *slowNames) any {
	var out any = ""
	for _, inner := range n.within[1:] {
		out = p.joined(out, p.sum(inner, at))
		if p.isOver() {
			return nil
		}
	}
	return out
}

func (p *slowPlayer) thing(all []any) any {
	if len(all) > 60 {
		return p.end(impl.FtMany)
	}
	if !p.room("thing", 1000) {
		return nil
	}
	out := &slowThing{map[any]any{}}
	for key, v := range all {
		out.slots[int64(key)] = v
	}
	return out
}

func (p *slowPlayer) tget(of any, by any) any {
	table, isTable := of.(*slowTable)
	thing, isThing := by.(*slowThing)
	if !isTable || !isThing {
		return p.end(impl.FtKind)
	}
	v, is := table.rows[thing]
	if !is {
		return p.end(impl.FtKey)
	}
	return v
}

func (p *slowPlayer) call(all []any) any {
	f, is := all[0].(*slowFunc)
	if !is {
		return p.end(impl.FtKind)
	}
	if !p.room("call", 40) {
		return nil
	}
	names := f.around.inner()
	for n, name := range paramsSlowly(f.fn) {
		p.declare(names, name, slices.Concat(all[1:], make([]any, n+1))[n])
	}
	for _, param := range f.fn.within[1].within {
		if !param.isList || p.isOver() {
			continue
		}
		if c := names.cell(param.within[0].sign); c.has == nil {
			c.has = p.sum(param.within[1], names)
		}
	}
	if p.isOver() {
		return nil
	}
	way := p.block(blockOf(f.fn), names)
	p.made["call"]--
	return way.says
}

// A slowPlay is a play that is read once, to be played with many a fuel.
type slowPlay struct {
	play   tree
	scoped bool
}

func slowPlayOf(l []string) slowPlay {
	if !scopeSlowly(l).scoped {
		return slowPlay{}
	}
	return slowPlay{playTree(l), true}
}

func (s slowPlay) played(fuel int64) impl.Show {
	if !s.scoped || fuel < 0 || fuel > 20000 {
		return impl.Show{Fault: impl.FtKind}
	}
	p := &slowPlayer{fuel: fuel, made: map[string]int{}}
	p.block(blockOf(s.play), nil)
	return p.show
}

func playedSlowly(l []string, fuel int64) impl.Show { return slowPlayOf(l).played(fuel) }

func sameShow(a impl.Show, b impl.Show) bool {
	return slices.Equal(a.Said, b.Said) && a.Fault == b.Fault && a.Steps == b.Steps
}

func showShow(s impl.Show) string {
	said := s.Said
	more := ""
	if len(said) > 12 {
		said, more = said[:12], "/.. of "+strconv.Itoa(len(s.Said))
	}
	return strconv.Quote(strings.Join(said, "/")+more) + " fault " + strconv.FormatInt(s.Fault, 10) + " steps " + strconv.FormatInt(s.Steps, 10)
}
