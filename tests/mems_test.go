package tests

import (
	"slices"
	"strconv"
	"strings"

	"loop.example/g00544/impl"
)

// The document's words about memory, as they stand there: the tests hold the
// program against these. Whether something would be right, the slow reading
// asks of the Mem that would come of it.

func valueSlowly(v impl.Value) bool {
	switch v.Kind {
	case impl.VaNone:
		return v == impl.Value{}
	case impl.VaNumber:
		return v.Text == "" && v.Number >= -greatest && v.Number <= greatest
	case impl.VaText:
		return v.Number == 0 && textForm.MatchString("'"+v.Text+"'")
	case impl.VaThing, impl.VaFunc, impl.VaTable:
		return v.Text == "" && v.Number >= 0
	}
	return false
}

func memSlowly(m impl.Mem) bool {
	if len(m.Cells) > 4000 || len(m.Things) > 1000 || len(m.Tables) > 200 {
		return false
	}
	values := slices.Clone(m.Cells)
	for _, thing := range m.Things {
		for n, slot := range thing.Slots {
			isKey := slot.Key.Kind == impl.VaNumber || slot.Key.Kind == impl.VaText
			if !isKey || !valueSlowly(slot.Key) || slotSlowly(thing, slot.Key) != n {
				return false
			}
			values = append(values, slot.Value)
		}
	}
	for _, table := range m.Tables {
		for n, row := range table.Rows {
			if !isPlace(row.Thing, len(m.Things)) || rowSlowly(table, row.Thing) != n {
				return false
			}
			values = append(values, row.Value)
		}
	}
	return !slices.ContainsFunc(values, func(v impl.Value) bool {
		return !valueSlowly(v) || v.Kind == impl.VaThing && !isPlace(v.Number, len(m.Things)) || v.Kind == impl.VaTable && !isPlace(v.Number, len(m.Tables))
	})
}

func isPlace(at int64, size int) bool { return at >= 0 && at < int64(size) }

func slotSlowly(thing impl.Thing, key impl.Value) int {
	return slices.IndexFunc(thing.Slots, func(s impl.Slot) bool { return s.Key == key })
}

func rowSlowly(table impl.Table, thing int64) int {
	return slices.IndexFunc(table.Rows, func(r impl.Row) bool { return r.Thing == thing })
}

func copyOf(m impl.Mem) impl.Mem {
	out := impl.Mem{Cells: slices.Clone(m.Cells)}
	for _, thing := range m.Things {
		out.Things = append(out.Things, impl.Thing{Slots: slices.Clone(thing.Slots)})
	}
	for _, table := range m.Tables {
		out.Tables = append(out.Tables, impl.Table{Rows: slices.Clone(table.Rows)})
	}
	return out
}

func sameMem(a impl.Mem, b impl.Mem) bool {
	return slices.Equal(a.Cells, b.Cells) &&
		slices.EqualFunc(a.Things, b.Things, func(x impl.Thing, y impl.Thing) bool { return slices.Equal(x.Slots, y.Slots) }) &&
		slices.EqualFunc(a.Tables, b.Tables, func(x impl.Table, y impl.Table) bool { return slices.Equal(x.Rows, y.Rows) })
}

// A memAnswer has room for whatever a function of the chapter answers.
type memAnswer struct {
	mem    impl.Mem
	value  impl.Value
	number int64
	is     bool
}

func sameAnswer(a memAnswer, b memAnswer) bool {
	return sameMem(a.mem, b.mem) && a.value == b.value && a.number == b.number && a.is == b.is
}

func cellMadeSlowly(m impl.Mem) (impl.Mem, int64) {
	if !memSlowly(m) {
		return impl.Mem{}, -1
	}
	out := copyOf(m)
	if out.Cells = append(out.Cells, impl.Value{}); !memSlowly(out) {
		return copyOf(m), -1
	}
	return out, int64(len(m.Cells))
}

func cellPutSlowly(m impl.Mem, at int64, v impl.Value) (impl.Mem, bool) {
	if !memSlowly(m) {
		return impl.Mem{}, false
	}
	if !isPlace(at, len(m.Cells)) {
		return copyOf(m), false
	}
	out := copyOf(m)
	if out.Cells[at] = v; !memSlowly(out) {
		return copyOf(m), false
	}
	return out, true
}

func thingMadeSlowly(m impl.Mem, list []impl.Value) (impl.Mem, int64) {
	if !memSlowly(m) {
		return impl.Mem{}, -1
	}
	out, thing := copyOf(m), impl.Thing{}
	for n, v := range list {
		thing.Slots = append(thing.Slots, impl.Slot{Key: number(int64(n)), Value: v})
	}
	if out.Things = append(out.Things, thing); len(list) > 60 || !memSlowly(out) {
		return copyOf(m), -1
	}
	return out, int64(len(m.Things))
}

func slotPutSlowly(m impl.Mem, at int64, key impl.Value, v impl.Value) (impl.Mem, int64) {
	if !memSlowly(m) {
		return impl.Mem{}, impl.FtKind
	}
	if !isPlace(at, len(m.Things)) {
		return copyOf(m), impl.FtKind
	}
	out := copyOf(m)
	thing := &out.Things[at]
	if n := slotSlowly(*thing, key); n >= 0 {
		thing.Slots[n].Value = v
	} else {
		thing.Slots = append(thing.Slots, impl.Slot{Key: key, Value: v})
	}
	if !memSlowly(out) {
		return copyOf(m), impl.FtKind
	}
	if len(thing.Slots) > 60 {
		return copyOf(m), impl.FtMany
	}
	return out, impl.FtNone
}

func slotGetSlowly(m impl.Mem, at int64, key impl.Value) (impl.Value, int64) {
	isKey := key.Kind == impl.VaNumber || key.Kind == impl.VaText
	if !memSlowly(m) || !isPlace(at, len(m.Things)) || !isKey || !valueSlowly(key) {
		return impl.Value{}, impl.FtKind
	}
	if n := slotSlowly(m.Things[at], key); n >= 0 {
		return m.Things[at].Slots[n].Value, impl.FtNone
	}
	return impl.Value{}, impl.FtNone
}

func tableMadeSlowly(m impl.Mem) (impl.Mem, int64) {
	if !memSlowly(m) {
		return impl.Mem{}, -1
	}
	out := copyOf(m)
	if out.Tables = append(out.Tables, impl.Table{}); !memSlowly(out) {
		return copyOf(m), -1
	}
	return out, int64(len(m.Tables))
}

func tablePutSlowly(m impl.Mem, at int64, thing int64, v impl.Value) (impl.Mem, bool) {
	if !memSlowly(m) {
		return impl.Mem{}, false
	}
	if !isPlace(at, len(m.Tables)) {
		return copyOf(m), false
	}
	out := copyOf(m)
	table := &out.Tables[at]
	if n := rowSlowly(*table, thing); n >= 0 {
		table.Rows[n].Value = v
	} else {
		table.Rows = append(table.Rows, impl.Row{Thing: thing, Value: v})
	}
	if !memSlowly(out) {
		return copyOf(m), false
	}
	return out, true
}

func tableGetSlowly(m impl.Mem, at int64, thing int64) (impl.Value, bool) {
	if !memSlowly(m) || !isPlace(at, len(m.Tables)) {
		return impl.Value{}, false
	}
	if n := rowSlowly(m.Tables[at], thing); n >= 0 {
		return m.Tables[at].Rows[n].Value, true
	}
	return impl.Value{}, false
}

// memFunctions are those of the chapter, as the program has them or slowly, so
// that one call can be made of both.
type memFunctions struct {
	memOk     func(impl.Mem) bool
	cellMade  func(impl.Mem) (impl.Mem, int64)
	cellPut   func(impl.Mem, int64, impl.Value) (impl.Mem, bool)
	thingMade func(impl.Mem, []impl.Value) (impl.Mem, int64)
	slotPut   func(impl.Mem, int64, impl.Value, impl.Value) (impl.Mem, int64)
	slotGet   func(impl.Mem, int64, impl.Value) (impl.Value, int64)
	tableMade func(impl.Mem) (impl.Mem, int64)
	tablePut  func(impl.Mem, int64, int64, impl.Value) (impl.Mem, bool)
	tableGet  func(impl.Mem, int64, int64) (impl.Value, bool)
}

func theProgram() memFunctions {
	return memFunctions{impl.MemOk, impl.CellMade, impl.CellPut, impl.ThingMade, impl.SlotPut, impl.SlotGet, impl.TableMade, impl.TablePut, impl.TableGet}
}

func theSlowReading() memFunctions {
	return memFunctions{memSlowly, cellMadeSlowly, cellPutSlowly, thingMadeSlowly, slotPutSlowly, slotGetSlowly, tableMadeSlowly, tablePutSlowly, tableGetSlowly}
}

// A memCall is one call of one function, but for the Mem. A list that it hands
// in beside that one, it makes anew each time.
type memCall struct {
	name string
	do   func(f memFunctions, m impl.Mem) memAnswer
}

func callMemOk() memCall {
	return memCall{"MemOk", func(f memFunctions, m impl.Mem) (a memAnswer) {
		a.is = f.memOk(m)
		return a
	}}
}

func callCellMade() memCall {
	return memCall{"CellMade", func(f memFunctions, m impl.Mem) (a memAnswer) {
		a.mem, a.number = f.cellMade(m)
		return a
	}}
}

func callCellPut(at int64, v impl.Value) memCall {
	return memCall{"CellPut " + wordOf(number(at)) + " " + wordOf(v), func(f memFunctions, m impl.Mem) (a memAnswer) {
		a.mem, a.is = f.cellPut(m, at, v)
		return a
	}}
}

func callThingMade(list ...impl.Value) memCall {
	return memCall{"ThingMade of " + strconv.Itoa(len(list)) + " " + wordsOfValues(list), func(f memFunctions, m impl.Mem) (a memAnswer) {
		a.mem, a.number = f.thingMade(m, slices.Clone(list))
		return a
	}}
}

func callSlotPut(at int64, key impl.Value, v impl.Value) memCall {
	return memCall{"SlotPut " + wordOf(number(at)) + " " + wordOf(key) + " " + wordOf(v), func(f memFunctions, m impl.Mem) (a memAnswer) {
		a.mem, a.number = f.slotPut(m, at, key, v)
		return a
	}}
}

func callSlotGet(at int64, key impl.Value) memCall {
	return memCall{"SlotGet " + wordOf(number(at)) + " " + wordOf(key), func(f memFunctions, m impl.Mem) (a memAnswer) {
		a.value, a.number = f.slotGet(m, at, key)
		return a
	}}
}

func callTableMade() memCall {
	return memCall{"TableMade", func(f memFunctions, m impl.Mem) (a memAnswer) {
		a.mem, a.number = f.tableMade(m)
		return a
	}}
}

func callTablePut(at int64, thing int64, v impl.Value) memCall {
	return memCall{"TablePut " + wordOf(number(at)) + " " + wordOf(number(thing)) + " " + wordOf(v), func(f memFunctions, m impl.Mem) (a memAnswer) {
		a.mem, a.is = f.tablePut(m, at, thing, v)
		return a
	}}
}

func callTableGet(at int64, thing int64) memCall {
	return memCall{"TableGet " + wordOf(number(at)) + " " + wordOf(number(thing)), func(f memFunctions, m impl.Mem) (a memAnswer) {
		a.value, a.is = f.tableGet(m, at, thing)
		return a
	}}
}

// A Mem, written: its Cells, its Things and its Tables. A Value is none, a
// number, a text between ', or t, f or b (VaThing, VaFunc, VaTable) and which;
// a Thing or a Table is {..}, in it Keys and Values, or Things and Values, each
// two with a : between.
func memOf(cells string, things string, tables string) impl.Mem {
	m := impl.Mem{Cells: valuesOf(cells)}
	for _, pairs := range pairsOf(things) {
		thing := impl.Thing{}
		for _, pair := range pairs {
			thing.Slots = append(thing.Slots, impl.Slot{Key: valueOf(pair[0]), Value: valueOf(pair[1])})
		}
		m.Things = append(m.Things, thing)
	}
	for _, pairs := range pairsOf(tables) {
		table := impl.Table{}
		for _, pair := range pairs {
			table.Rows = append(table.Rows, impl.Row{Thing: valueOf(pair[0]).Number, Value: valueOf(pair[1])})
		}
		m.Tables = append(m.Tables, table)
	}
	return m
}

func pairsOf(s string) [][][2]string {
	out := [][][2]string{}
	for _, whole := range strings.SplitAfter(strings.ReplaceAll(s, "{", ""), "}") {
		inside, is := strings.CutSuffix(whole, "}")
		if !is {
			continue
		}
		pairs := [][2]string{}
		for _, pair := range strings.Fields(inside) {
			key, value, _ := strings.Cut(pair, ":")
			pairs = append(pairs, [2]string{key, value})
		}
		out = append(out, pairs)
	}
	return out
}

func valuesOf(words string) []impl.Value {
	out := []impl.Value{}
	for _, word := range strings.Fields(words) {
		out = append(out, valueOf(word))
	}
	return out
}

func valueOf(word string) impl.Value {
	if word == "none" {
		return impl.Value{}
	}
	if word[0] == '\'' {
		return text(strings.Trim(word, "'"))
	}
	kind := int64(strings.IndexByte("..tfb", word[0])) + 1
	if kind == 0 {
		n, err := strconv.ParseInt(word, 10, 64)
		if err != nil {
			panic(err)
		}
		return number(n)
	}
	n, err := strconv.ParseInt(word[1:], 10, 64)
	if err != nil {
		panic(err)
	}
	return place(kind, n)
}

func wordOf(v impl.Value) string {
	n := strconv.FormatInt(v.Number, 10)
	switch {
	case v == impl.Value{}:
		return "none"
	case v == number(v.Number):
		return n
	case v == text(v.Text):
		return "'" + strings.Trim(strconv.Quote(v.Text), `"`) + "'"
	case v == place(v.Kind, v.Number) && v.Kind >= impl.VaThing && v.Kind <= impl.VaTable:
		return "..tfb"[v.Kind-1:v.Kind] + n
	}
	return "(" + strconv.FormatInt(v.Kind, 10) + " " + n + " " + strconv.Quote(v.Text) + ")"
}

func wordsOfValues(list []impl.Value) string {
	words := []string{}
	for _, v := range list {
		words = append(words, wordOf(v))
	}
	return strings.Join(words, " ")
}

// showMem cuts what is too long to be read.
func showMem(m impl.Mem) string {
	things, tables := []string{}, []string{}
	for _, thing := range m.Things {
		words := []string{}
		for _, slot := range thing.Slots {
			words = append(words, wordOf(slot.Key)+":"+wordOf(slot.Value))
		}
		things = append(things, "{"+strings.Join(words, " ")+"}")
	}
	for _, table := range m.Tables {
		words := []string{}
		for _, row := range table.Rows {
			words = append(words, wordOf(number(row.Thing))+":"+wordOf(row.Value))
		}
		tables = append(tables, "{"+strings.Join(words, " ")+"}")
	}
	parts := []string{wordsOfValues(m.Cells), strings.Join(things, " "), strings.Join(tables, " ")}
	for n, part := range parts {
		if len(part) > 300 {
			parts[n] = part[:300] + ".. (" + strconv.Itoa(len(part)) + " bytes)"
		}
	}
	return strings.Join(parts, " | ")
}

func showAnswer(a memAnswer) string {
	return showMem(a.mem) + " # " + wordOf(a.value) + " " + strconv.FormatInt(a.number, 10) + " " + strconv.FormatBool(a.is)
}
