package tests

import (
	"go/ast"
	"math"
	"reflect"
	"slices"
	"strconv"
	"strings"
	"testing"

	"loop.example/g00544/impl"
)

// manyOf are as many as are asked for, each made of its place.
func manyOf[T any](count int, one func(n int64) T) []T {
	out := []T{}
	for n := range int64(count) {
		out = append(out, one(n))
	}
	return out
}

func slotsOf(count int) impl.Thing {
	return impl.Thing{Slots: manyOf(count, func(n int64) impl.Slot { return impl.Slot{Key: number(n), Value: number(-n)} })}
}

func emptyThings(count int) []impl.Thing {
	return manyOf(count, func(int64) impl.Thing { return impl.Thing{} })
}

func emptyTables(count int) []impl.Table {
	return manyOf(count, func(int64) impl.Table { return impl.Table{} })
}

// rowsOf is a Table with a Row of each of the Things, the last one first.
func rowsOf(things int64) impl.Table {
	return impl.Table{Rows: manyOf(int(things), func(n int64) impl.Row { return impl.Row{Thing: things - 1 - n, Value: place(impl.VaThing, n)} })}
}

// fullMem has room for nothing more: 60 Slots in each Thing, and in the first
// Table a Row of each Thing.
func fullMem() impl.Mem {
	m := impl.Mem{
		Cells:  manyOf(4000, func(n int64) impl.Value { return place(impl.VaThing, n%1000) }),
		Things: manyOf(1000, func(int64) impl.Thing { return slotsOf(60) }),
		Tables: emptyTables(200),
	}
	m.Tables[0] = rowsOf(1000)
	return m
}

// mixedMem has several of each, and Values of every kind in Cells, Slots and
// Rows; one Thing points at itself, two at each other, and a Table has itself.
func mixedMem() impl.Mem {
	return memOf("none 5 'a' t0 f7 b1 t2", "{0:none 1:5 2:'a' 'k':t0 '5':t1 5:t2 'f':f0 'b':b0} {} {-7:t1 '':'x'}", "{2:t1 0:none 1:5} {} {1:b2 2:'y' 0:f9}")
}

func rightMems() []impl.Mem {
	mems := []impl.Mem{
		{}, {Cells: []impl.Value{}, Things: []impl.Thing{}, Tables: []impl.Table{}}, mixedMem(),
		// None, one and several of each.
		memOf("none", "", ""), memOf("", "{}", ""), memOf("", "", "{}"), memOf("none none", "{} {}", "{} {}"), memOf("5 'a' none f0 -7", "", ""),
		// What points somewhere: at the first one and at the last one there is.
		memOf("t0", "{}", ""), memOf("b0", "", "{}"), memOf("t1 b1 t0 b0", "{} {}", "{} {}"), memOf("t2 b0", "{} {} {}", "{}"), memOf("b2 t0", "{}", "{} {} {}"), memOf("f0 f7 f9223372036854775807", "", ""),
		// Things that point at themselves and at each other; Tables that have themselves.
		memOf("", "{0:t0}", ""), memOf("", "{0:t1} {0:t0}", ""), memOf("", "{0:t0 1:t1} {'k':t1 'l':t0}", ""), memOf("", "{}", "{0:b0}"), memOf("", "{0:b0}", "{0:t0}"),
		// Keys that look alike, and a Key that is in several Things.
		memOf("", "{5:1 '5':2}", ""), memOf("", "{'5':2 5:1}", ""), memOf("", "{0:1 '':2 '0':3 '-0':4}", ""), memOf("", "{0:1} {0:1} {0:1}", ""), memOf("", "{-999999999:1 999999999:2}", ""),
		// Rows in whatever order, and of one Thing in several Tables.
		memOf("", "{} {} {}", "{0:1 1:2 2:3}"), memOf("", "{} {} {}", "{2:1 0:2 1:3}"), memOf("", "{} {}", "{1:5} {1:5} {0:5 1:7}"), memOf("", "{}", "{0:none}"),
		// 59, 60 and 61 Slots: nobody counts those of a Mem that is handed in.
		{Things: []impl.Thing{slotsOf(59)}}, {Things: []impl.Thing{slotsOf(60)}}, {Things: []impl.Thing{slotsOf(61)}}, {Things: []impl.Thing{slotsOf(1), slotsOf(60), slotsOf(61), slotsOf(100)}},
		{Things: emptyThings(5), Tables: []impl.Table{rowsOf(5), rowsOf(3)}},
	}
	for _, v := range rightValues() {
		if v.Kind != impl.VaThing && v.Kind != impl.VaTable {
			mems = append(mems, impl.Mem{Cells: []impl.Value{v}, Things: []impl.Thing{{Slots: []impl.Slot{{Key: number(0), Value: v}}}}, Tables: []impl.Table{{Rows: []impl.Row{{Value: v}}}}})
		}
	}
	return mems
}

// changedAt is a Mem with one change, made by who is handed a copy of it.
func changedAt(m impl.Mem, change func(m *impl.Mem)) impl.Mem {
	out := copyOf(m)
	change(&out)
	return out
}

// noValues are all that cannot stand in the Mem: the wrong ones, and those that
// point at what there is not.
func noValues(m impl.Mem) []impl.Value {
	things, tables := int64(len(m.Things)), int64(len(m.Tables))
	return append(wrongValues(),
		place(impl.VaThing, things), place(impl.VaThing, things+1), place(impl.VaThing, 1000), place(impl.VaThing, math.MaxInt64), place(impl.VaThing, 1<<32),
		place(impl.VaTable, tables), place(impl.VaTable, tables+1), place(impl.VaTable, 200), place(impl.VaTable, math.MaxInt64), place(impl.VaTable, 1<<32))
}

// noKeys are all that is no VaNumber and no VaText, and those that are wrong.
func noKeys() []impl.Value {
	return append(wrongValues(), impl.Value{}, place(impl.VaThing, 0), place(impl.VaFunc, 0), place(impl.VaFunc, 5), place(impl.VaTable, 0))
}

// brokenMems are the Mem, broken at one place, in each way and at each place.
func brokenMems(m impl.Mem) []impl.Mem {
	out := []impl.Mem{}
	add := func(change func(m *impl.Mem)) { out = append(out, changedAt(m, change)) }
	for _, v := range noValues(m) {
		add(func(m *impl.Mem) { m.Cells = append(m.Cells, v) })
		for at := range m.Cells {
			add(func(m *impl.Mem) { m.Cells[at] = v })
		}
	}
	for t, thing := range m.Things {
		for s, slot := range thing.Slots {
			for _, v := range noValues(m) {
				add(func(m *impl.Mem) { m.Things[t].Slots[s].Value = v })
			}
			for _, key := range noKeys() {
				add(func(m *impl.Mem) { m.Things[t].Slots[s].Key = key })
			}
			add(func(m *impl.Mem) {
				m.Things[t].Slots = append(m.Things[t].Slots, impl.Slot{Key: slot.Key, Value: number(3)})
			})
			add(func(m *impl.Mem) { m.Things[t].Slots = slices.Insert(m.Things[t].Slots, 0, slot) })
		}
	}
	for t, table := range m.Tables {
		for r, row := range table.Rows {
			for _, v := range noValues(m) {
				add(func(m *impl.Mem) { m.Tables[t].Rows[r].Value = v })
			}
			for _, thing := range noPlaces(len(m.Things)) {
				add(func(m *impl.Mem) { m.Tables[t].Rows[r].Thing = thing })
			}
			add(func(m *impl.Mem) {
				m.Tables[t].Rows = append(m.Tables[t].Rows, impl.Row{Thing: row.Thing, Value: number(3)})
			})
			add(func(m *impl.Mem) { m.Tables[t].Rows = slices.Insert(m.Tables[t].Rows, 0, row) })
		}
	}
	return out
}

func noPlaces(size int) []int64 {
	return []int64{-1, -2, int64(size), int64(size) + 1, math.MinInt64, math.MaxInt64, 1 << 32, -1 << 32}
}

// placesIn are all places of a short list, a few of a long one, and some that
// are none.
func placesIn(size int) []int64 {
	out := noPlaces(size)
	for at := range int64(size) {
		if at < 3 || at >= int64(size)-2 {
			out = append(out, at)
		}
	}
	return out
}

func tooManyMems() []impl.Mem {
	return []impl.Mem{
		{Cells: make([]impl.Value, 4001)}, {Things: emptyThings(1001)}, {Tables: emptyTables(201)},
		{Cells: make([]impl.Value, 4001), Things: emptyThings(1001), Tables: emptyTables(201)},
		{Cells: make([]impl.Value, 100000)}, {Things: emptyThings(100000)}, {Tables: emptyTables(100000)},
		changedAt(mixedMem(), func(m *impl.Mem) { m.Cells = append(m.Cells, make([]impl.Value, 4000)...) }),
		changedAt(mixedMem(), func(m *impl.Mem) { m.Things = append(m.Things, emptyThings(1000)...) }),
		changedAt(mixedMem(), func(m *impl.Mem) { m.Tables = append(m.Tables, emptyTables(200)...) }),
	}
}

// checkCall holds one call of the program against the slow reading.
func checkCall(t *testing.T, c memCall, m impl.Mem) {
	t.Helper()
	if got, want := c.do(theProgram(), m), c.do(theSlowReading(), m); !sameAnswer(got, want) {
		t.Errorf("%s, of %s, is\n%s; want\n%s", c.name, showMem(m), showAnswer(got), showAnswer(want))
	}
}

// fewCalls are some of each function, right ones and wrong ones.
func fewCalls(m impl.Mem) []memCall {
	calls := []memCall{callMemOk(), callCellMade(), callTableMade(), callThingMade(), callThingMade(number(5), text("a")), callThingMade(number(5), text("A"))}
	for _, at := range []int64{0, -1, int64(len(m.Cells)) - 1, int64(len(m.Cells))} {
		calls = append(calls, callCellPut(at, text("new")), callCellPut(at, text("A")))
	}
	for _, at := range []int64{0, -1, int64(len(m.Things)) - 1, int64(len(m.Things))} {
		calls = append(calls, callSlotPut(at, number(0), text("new")), callSlotPut(at, text("z"), text("new")), callSlotPut(at, number(0), text("A")), callSlotPut(at, impl.Value{}, number(1)), callSlotGet(at, number(0)), callSlotGet(at, text("z")), callSlotGet(at, impl.Value{}))
		for _, table := range []int64{0, -1, int64(len(m.Tables)) - 1, int64(len(m.Tables))} {
			calls = append(calls, callTablePut(table, at, text("new")), callTablePut(table, at, text("A")), callTableGet(table, at))
		}
	}
	return calls
}

// manyCalls are those of each function at all places of a short Mem, with
// Values and Keys of every kind.
func manyCalls(m impl.Mem) []memCall {
	things, tables := int64(len(m.Things)), int64(len(m.Tables))
	values := append(valuesOf("none 5 'a' f0 t0 b0"), place(impl.VaThing, things-1), place(impl.VaThing, things), place(impl.VaThing, things+1), place(impl.VaTable, tables-1), place(impl.VaTable, tables), text("A"), number(greatest+1), impl.Value{Kind: 6}, impl.Value{Number: 1})
	keys := append(valuesOf("0 1 5 '5' 'k' '' -7 59 60 61 none t0 f0 b0"), text("A"), number(greatest+1), impl.Value{Kind: impl.VaNumber, Text: "a"}, impl.Value{Kind: 6})
	calls := fewCalls(m)
	for _, v := range values {
		calls = append(calls, callThingMade(v), callThingMade(v, number(1)), callThingMade(number(1), v, v))
		for _, at := range placesIn(len(m.Cells)) {
			calls = append(calls, callCellPut(at, v))
		}
	}
	for _, at := range placesIn(len(m.Things)) {
		for _, key := range keys {
			calls = append(calls, callSlotGet(at, key))
			for _, v := range values {
				calls = append(calls, callSlotPut(at, key, v))
			}
		}
		for _, table := range placesIn(len(m.Tables)) {
			calls = append(calls, callTableGet(table, at))
			for _, v := range values {
				calls = append(calls, callTablePut(table, at, v))
			}
		}
	}
	return calls
}

func TestMemoryIsLimitedAsTheDocumentLimitsIt(t *testing.T) {
	if impl.MaxCells != 4000 || impl.MaxThings != 1000 || impl.MaxTables != 200 {
		t.Errorf("%d, %d, %d", impl.MaxCells, impl.MaxThings, impl.MaxTables)
	}
}

func TestMemOkOfRightMems(t *testing.T) {
	for _, m := range append(rightMems(), fullMem()) {
		if !impl.MemOk(m) || !memSlowly(m) {
			t.Errorf("%s is right", showMem(m))
		}
	}
}

func TestMemOkOfWrongMems(t *testing.T) {
	for _, m := range []impl.Mem{
		// A Value that is not ValueOk.
		memOf("1000000000", "", ""), memOf("5 'A'", "", ""), memOf("", "{0:'a_b'}", ""), memOf("", "{}", "{0:-1000000000}"), memOf("f-1", "", ""),
		// A VaThing or VaTable that there is not: in Cells, Slots and Rows.
		memOf("t0", "", ""), memOf("t0", "", "{}"), memOf("t1", "{}", ""), memOf("b0", "", ""), memOf("b0", "{}", ""), memOf("b1", "", "{}"), memOf("t-1", "{}", ""), memOf("b-1", "", "{}"),
		memOf("", "{0:t1}", ""), memOf("", "{0:b0}", ""), memOf("", "{} {'k':t2}", ""), memOf("", "{} {'k':b1}", "{}"), memOf("", "{0:t0 1:t1}", ""),
		memOf("", "{}", "{0:t1}"), memOf("", "{}", "{0:b1}"), memOf("", "{} {}", "{0:t0 1:t2}"), memOf("t9223372036854775807", "{}", ""),
		// A Key of another kind, and one that is not right.
		memOf("", "{none:5}", ""), memOf("", "{t0:5}", ""), memOf("", "{f0:5}", ""), memOf("", "{b0:5}", "{}"), memOf("", "{0:5 none:5}", ""), memOf("", "{'K':5}", ""), memOf("", "{1000000000:5}", ""), memOf("", "{} {'a'b':5}", ""),
		// Two Slots of one Key.
		memOf("", "{0:5 0:5}", ""), memOf("", "{0:5 0:6}", ""), memOf("", "{'k':1 0:2 'k':3}", ""), memOf("", "{} {} {1:1 2:2 3:3 1:4}", ""), memOf("", "{5:1 '5':2 '5':3}", ""),
		// A Row of a Thing that there is not, two Rows of one Thing.
		memOf("", "", "{0:5}"), memOf("", "{}", "{1:5}"), memOf("", "{}", "{-1:5}"), memOf("", "{} {}", "{0:1 2:2}"), memOf("", "{}", "{} {0:1} {1:1}"), memOf("", "{}", "{0:5 0:5}"), memOf("", "{}", "{0:5 0:6}"), memOf("", "{} {}", "{} {1:1 0:2 1:3}"),
	} {
		if impl.MemOk(m) || memSlowly(m) {
			t.Errorf("%s is wrong", showMem(m))
		}
	}
	for _, m := range append(brokenMems(mixedMem()), tooManyMems()...) {
		if impl.MemOk(m) || memSlowly(m) {
			t.Errorf("%s is wrong", showMem(m))
		}
	}
}

// A limit that is met exactly is accepted, one that is passed by one is refused.
func TestMemOkAtItsLimits(t *testing.T) {
	for _, c := range []struct {
		cells, things, tables int
		want                  bool
	}{
		{4000, 0, 0, true}, {4001, 0, 0, false}, {3999, 0, 0, true}, {0, 1000, 0, true}, {0, 1001, 0, false}, {0, 999, 0, true}, {0, 0, 200, true}, {0, 0, 201, false}, {0, 0, 199, true},
		{4000, 1000, 200, true}, {4001, 1000, 200, false}, {4000, 1001, 200, false}, {4000, 1000, 201, false}, {1001, 201, 200, true}, {4000, 1000, 0, true}, {1, 1, 201, false}, {1, 1001, 1, false}, {201, 201, 200, true},
	} {
		if got := impl.MemOk(impl.Mem{Cells: make([]impl.Value, c.cells), Things: emptyThings(c.things), Tables: emptyTables(c.tables)}); got != c.want {
			t.Errorf("%d, %d, %d: %v", c.cells, c.things, c.tables, got)
		}
	}
	last := impl.Mem{Cells: []impl.Value{place(impl.VaThing, 999), place(impl.VaTable, 199)}, Things: emptyThings(1000), Tables: emptyTables(200)}
	if !impl.MemOk(last) {
		t.Error("the last Thing and the last Table are there")
	}
	for at, v := range []impl.Value{place(impl.VaThing, 1000), place(impl.VaTable, 200)} {
		if impl.MemOk(changedAt(last, func(m *impl.Mem) { m.Cells[at] = v })) {
			t.Errorf("there is no %s", wordOf(v))
		}
	}
	// A Thing and a Table of as many as come: no two of one.
	many := impl.Mem{Things: append(emptyThings(999), slotsOf(30000)), Tables: []impl.Table{rowsOf(1000)}}
	if !impl.MemOk(many) || impl.MemOk(changedAt(many, func(m *impl.Mem) { m.Things[999].Slots[29999].Key = number(0) })) || impl.MemOk(changedAt(many, func(m *impl.Mem) { m.Tables[0].Rows[0].Thing = 0 })) {
		t.Error("of many Slots and Rows no two are of one")
	}
}

// An answeredCase is a Mem, a call and what is answered, all written out.
type answeredCase struct {
	m    impl.Mem
	call memCall
	want memAnswer
}

func checkAnswered(t *testing.T, cases []answeredCase) {
	t.Helper()
	for _, c := range cases {
		if got := c.call.do(theProgram(), c.m); !sameAnswer(got, c.want) {
			t.Errorf("%s, of %s, is\n%s; want\n%s", c.call.name, showMem(c.m), showAnswer(got), showAnswer(c.want))
		}
		checkCall(t, c.call, c.m)
	}
}

// told and said are a Mem with a number, and with a yes or no, beside it.
func told(m impl.Mem, n int64) memAnswer { return memAnswer{mem: m, number: n} }

func said(m impl.Mem, is bool) memAnswer { return memAnswer{mem: m, is: is} }

func TestCells(t *testing.T) {
	none, one, two, points := impl.Mem{}, memOf("5", "{0:5}", "{0:5}"), memOf("5 'a'", "", ""), memOf("none none", "{} {}", "{} {}")
	checkAnswered(t, []answeredCase{
		{none, callCellMade(), told(memOf("none", "", ""), 0)},
		{one, callCellMade(), told(memOf("5 none", "{0:5}", "{0:5}"), 1)},
		{two, callCellMade(), told(memOf("5 'a' none", "", ""), 2)},
		{memOf("t0", "", ""), callCellMade(), told(none, -1)},
		{memOf("5 6 7", "{0:1 0:1}", ""), callCellMade(), told(none, -1)},

		{two, callCellPut(0, text("b")), said(memOf("'b' 'a'", "", ""), true)},
		{two, callCellPut(1, number(-3)), said(memOf("5 -3", "", ""), true)},
		{two, callCellPut(1, impl.Value{}), said(memOf("5 none", "", ""), true)},
		{two, callCellPut(1, text("a")), said(two, true)},
		{two, callCellPut(0, place(impl.VaFunc, math.MaxInt64)), said(memOf("f9223372036854775807 'a'", "", ""), true)},
		{one, callCellPut(0, number(6)), said(memOf("6", "{0:5}", "{0:5}"), true)},
		// The last one there is, and one past it.
		{points, callCellPut(0, place(impl.VaThing, 1)), said(memOf("t1 none", "{} {}", "{} {}"), true)},
		{points, callCellPut(0, place(impl.VaThing, 2)), said(points, false)},
		{points, callCellPut(1, place(impl.VaTable, 1)), said(memOf("none b1", "{} {}", "{} {}"), true)},
		{points, callCellPut(1, place(impl.VaTable, 2)), said(points, false)},
		{none, callCellPut(0, number(1)), said(none, false)},
		{one, callCellPut(1, number(1)), said(one, false)},
		{one, callCellPut(-1, number(1)), said(one, false)},
		{two, callCellPut(math.MinInt64, number(1)), said(two, false)},
		{two, callCellPut(math.MaxInt64, number(1)), said(two, false)},
		{two, callCellPut(1<<32, number(1)), said(two, false)},
		{two, callCellPut(0, number(greatest+1)), said(two, false)},
		{two, callCellPut(0, text("A")), said(two, false)},
		{two, callCellPut(2, text("A")), said(two, false)},
		{two, callCellPut(0, place(impl.VaThing, 0)), said(two, false)},
		{memOf("5 t0", "", ""), callCellPut(0, number(1)), said(none, false)},
		// The one that is wrong is the one that would be written over.
		{memOf("5 t0", "", ""), callCellPut(1, number(1)), said(none, false)},
		{memOf("5 t0", "", ""), callCellPut(2, text("A")), said(none, false)},
	})
}

func TestThings(t *testing.T) {
	none, one, points := impl.Mem{}, memOf("5", "{'k':5}", "{0:5}"), memOf("", "{} {}", "{} {}")
	checkAnswered(t, []answeredCase{
		{none, callThingMade(), told(memOf("", "{}", ""), 0)},
		{none, callThingMade(number(7)), told(memOf("", "{0:7}", ""), 0)},
		{one, callThingMade(valuesOf("none 'a' 5 f0 t0 b0")...), told(memOf("5", "{'k':5} {0:none 1:'a' 2:5 3:f0 4:t0 5:b0}", "{0:5}"), 1)},
		{points, callThingMade(valuesOf("t1 b1 t1")...), told(memOf("", "{} {} {0:t1 1:b1 2:t1}", "{} {}"), 2)},
		{points, callThingMade(place(impl.VaThing, 3)), told(points, -1)},
		{points, callThingMade(place(impl.VaTable, 2)), told(points, -1)},
		{points, callThingMade(number(1), place(impl.VaTable, math.MaxInt64)), told(points, -1)},
		// It would point at the Thing that it stands in, which would be there.
		{points, callThingMade(place(impl.VaThing, 2)), told(memOf("", "{} {} {0:t2}", "{} {}"), 2)},
		{none, callThingMade(valuesOf("5 t0")...), told(memOf("", "{0:5 1:t0}", ""), 0)},
		{one, callThingMade(text("A")), told(one, -1)},
		{one, callThingMade(number(1), number(greatest+1)), told(one, -1)},
		{one, callThingMade(impl.Value{Kind: 6}, number(1)), told(one, -1)},
		{memOf("t0", "", ""), callThingMade(), told(none, -1)},
		{memOf("t0", "", ""), callThingMade(text("A")), told(none, -1)},
		{memOf("", "{0:1 0:1}", ""), callThingMade(number(1)), told(none, -1)},
	})
	for _, count := range []int{59, 60} {
		list := manyOf(count, func(n int64) impl.Value { return number(-n) })
		checkAnswered(t, []answeredCase{{none, callThingMade(list...), told(impl.Mem{Things: []impl.Thing{slotsOf(count)}}, 0)}})
	}
	for _, count := range []int{61, 62, 1000, 100000} {
		list := make([]impl.Value, count)
		checkAnswered(t, []answeredCase{{one, callThingMade(list...), told(one, -1)}, {memOf("t0", "", ""), callThingMade(list...), told(none, -1)}})
	}
}

func TestSlots(t *testing.T) {
	none, two, alike := impl.Mem{}, memOf("5", "{0:5 'k':6} {0:7}", "{0:5}"), memOf("", "{5:1 '5':2}", "")
	checkAnswered(t, []answeredCase{
		// In its place.
		{two, callSlotPut(0, number(0), text("x")), told(memOf("5", "{0:'x' 'k':6} {0:7}", "{0:5}"), impl.FtNone)},
		{two, callSlotPut(0, text("k"), impl.Value{}), told(memOf("5", "{0:5 'k':none} {0:7}", "{0:5}"), impl.FtNone)},
		{two, callSlotPut(1, number(0), number(0)), told(memOf("5", "{0:5 'k':6} {0:0}", "{0:5}"), impl.FtNone)},
		{alike, callSlotPut(0, number(5), number(9)), told(memOf("", "{5:9 '5':2}", ""), impl.FtNone)},
		{alike, callSlotPut(0, text("5"), number(9)), told(memOf("", "{5:1 '5':9}", ""), impl.FtNone)},
		// One more at the end.
		{two, callSlotPut(0, text("0"), number(1)), told(memOf("5", "{0:5 'k':6 '0':1} {0:7}", "{0:5}"), impl.FtNone)},
		{two, callSlotPut(1, number(-greatest), number(1)), told(memOf("5", "{0:5 'k':6} {0:7 -999999999:1}", "{0:5}"), impl.FtNone)},
		{memOf("", "{}", ""), callSlotPut(0, text(""), text("")), told(memOf("", "{'':''}", ""), impl.FtNone)},
		// The Thing that it stands in, the last one there is, and one past it.
		{two, callSlotPut(0, number(1), place(impl.VaThing, 0)), told(memOf("5", "{0:5 'k':6 1:t0} {0:7}", "{0:5}"), impl.FtNone)},
		{two, callSlotPut(0, number(0), place(impl.VaThing, 1)), told(memOf("5", "{0:t1 'k':6} {0:7}", "{0:5}"), impl.FtNone)},
		{two, callSlotPut(0, number(0), place(impl.VaThing, 2)), told(two, impl.FtKind)},
		{two, callSlotPut(0, number(0), place(impl.VaTable, 0)), told(memOf("5", "{0:b0 'k':6} {0:7}", "{0:5}"), impl.FtNone)},
		{two, callSlotPut(0, number(0), place(impl.VaTable, 1)), told(two, impl.FtKind)},
		// No such Thing, no such key, no right Value.
		{two, callSlotPut(2, number(0), number(1)), told(two, impl.FtKind)},
		{two, callSlotPut(-1, number(0), number(1)), told(two, impl.FtKind)},
		{two, callSlotPut(math.MinInt64, number(0), number(1)), told(two, impl.FtKind)},
		{two, callSlotPut(math.MaxInt64, number(0), number(1)), told(two, impl.FtKind)},
		{none, callSlotPut(0, number(0), number(1)), told(none, impl.FtKind)},
		{two, callSlotPut(0, impl.Value{}, number(1)), told(two, impl.FtKind)},
		{two, callSlotPut(0, place(impl.VaThing, 0), number(1)), told(two, impl.FtKind)},
		{two, callSlotPut(0, place(impl.VaFunc, 0), number(1)), told(two, impl.FtKind)},
		{two, callSlotPut(0, place(impl.VaTable, 0), number(1)), told(two, impl.FtKind)},
		{two, callSlotPut(0, text("K"), number(1)), told(two, impl.FtKind)},
		{two, callSlotPut(0, number(greatest+1), number(1)), told(two, impl.FtKind)},
		{two, callSlotPut(0, number(0), text("A")), told(two, impl.FtKind)},
		{two, callSlotPut(0, text("new"), text("A")), told(two, impl.FtKind)},
		{memOf("t0", "", ""), callSlotPut(0, number(0), number(1)), told(none, impl.FtKind)},
		{memOf("t7", "{0:1}", ""), callSlotPut(0, number(0), number(1)), told(none, impl.FtKind)},
		{memOf("", "{0:t7}", ""), callSlotPut(0, number(0), number(1)), told(none, impl.FtKind)},

		{two, callSlotGet(0, number(0)), memAnswer{value: number(5)}},
		{two, callSlotGet(0, text("k")), memAnswer{value: number(6)}},
		{two, callSlotGet(1, number(0)), memAnswer{value: number(7)}},
		{alike, callSlotGet(0, number(5)), memAnswer{value: number(1)}},
		{alike, callSlotGet(0, text("5")), memAnswer{value: number(2)}},
		{memOf("", "{0:none 1:t0 2:b0 3:f2 4:'x'}", "{}"), callSlotGet(0, number(1)), memAnswer{value: place(impl.VaThing, 0)}},
		// A Key that is not there.
		{two, callSlotGet(1, text("k")), memAnswer{}},
		{two, callSlotGet(0, text("0")), memAnswer{}},
		{memOf("", "{}", ""), callSlotGet(0, number(0)), memAnswer{}},
		{memOf("", "{0:none}", ""), callSlotGet(0, number(0)), memAnswer{}},
		// No such Thing, no such key.
		{two, callSlotGet(2, number(0)), memAnswer{number: impl.FtKind}},
		{two, callSlotGet(-1, number(0)), memAnswer{number: impl.FtKind}},
		{two, callSlotGet(math.MinInt64, number(0)), memAnswer{number: impl.FtKind}},
		{two, callSlotGet(math.MaxInt64, number(0)), memAnswer{number: impl.FtKind}},
		{two, callSlotGet(0, impl.Value{}), memAnswer{number: impl.FtKind}},
		{two, callSlotGet(0, place(impl.VaThing, 0)), memAnswer{number: impl.FtKind}},
		{two, callSlotGet(0, place(impl.VaFunc, 0)), memAnswer{number: impl.FtKind}},
		{two, callSlotGet(0, place(impl.VaTable, 0)), memAnswer{number: impl.FtKind}},
		{two, callSlotGet(0, text("K")), memAnswer{number: impl.FtKind}},
		{two, callSlotGet(0, number(-greatest-1)), memAnswer{number: impl.FtKind}},
		{none, callSlotGet(0, number(0)), memAnswer{number: impl.FtKind}},
		{memOf("t7", "{0:1}", ""), callSlotGet(0, number(0)), memAnswer{number: impl.FtKind}},
		{memOf("", "{0:1 1:2 1:3}", ""), callSlotGet(0, number(0)), memAnswer{number: impl.FtKind}},
	})
}

func TestSlotsAtTheirLimit(t *testing.T) {
	with := func(count int) impl.Mem {
		return impl.Mem{Cells: valuesOf("t1"), Things: []impl.Thing{slotsOf(1), slotsOf(count), slotsOf(2)}}
	}
	put := func(m impl.Mem, at int, v impl.Value) impl.Mem {
		return changedAt(m, func(m *impl.Mem) { m.Things[1].Slots[at].Value = v })
	}
	more := func(m impl.Mem, key impl.Value, v impl.Value) impl.Mem {
		return changedAt(m, func(m *impl.Mem) {
			m.Things[1].Slots = append(m.Things[1].Slots, impl.Slot{Key: key, Value: v})
		})
	}
	checkAnswered(t, []answeredCase{
		{with(59), callSlotPut(1, number(59), number(-59)), told(with(60), impl.FtNone)},
		{with(59), callSlotPut(1, text("0"), text("x")), told(more(with(59), text("0"), text("x")), impl.FtNone)},
		{with(60), callSlotPut(1, number(60), number(1)), told(with(60), impl.FtMany)},
		{with(60), callSlotPut(1, text("0"), number(1)), told(with(60), impl.FtMany)},
		// One that is there already.
		{with(60), callSlotPut(1, number(0), text("x")), told(put(with(60), 0, text("x")), impl.FtNone)},
		{with(60), callSlotPut(1, number(59), text("x")), told(put(with(60), 59, text("x")), impl.FtNone)},
		// FtKind is named first.
		{with(60), callSlotPut(1, number(60), text("A")), told(with(60), impl.FtKind)},
		{with(60), callSlotPut(1, impl.Value{}, number(1)), told(with(60), impl.FtKind)},
		{with(60), callSlotPut(1, number(60), place(impl.VaThing, 3)), told(with(60), impl.FtKind)},
		{with(60), callSlotPut(3, number(60), number(1)), told(with(60), impl.FtKind)},
		{changedAt(with(60), func(m *impl.Mem) { m.Cells[0] = text("A") }), callSlotPut(1, number(60), number(1)), told(impl.Mem{}, impl.FtKind)},
		// With more than 60 it would have more than 60 whatever is put.
		{with(61), callSlotPut(1, number(61), number(1)), told(with(61), impl.FtMany)},
		{with(61), callSlotPut(1, number(0), number(1)), told(with(61), impl.FtMany)},
		{with(61), callSlotPut(1, number(0), text("A")), told(with(61), impl.FtKind)},
		{with(61), callSlotGet(1, number(60)), memAnswer{value: number(-60)}},
		// The Things beside it have room.
		{with(60), callSlotPut(0, number(0), number(0)), told(with(60), impl.FtNone)},
		{with(61), callSlotPut(2, number(1), number(-1)), told(with(61), impl.FtNone)},
	})
}

func TestTables(t *testing.T) {
	none, two, none3 := impl.Mem{}, memOf("5", "{0:5} {} {}", "{2:5 0:6} {}"), memOf("", "{} {} {}", "{} {}")
	checkAnswered(t, []answeredCase{
		{none, callTableMade(), told(memOf("", "", "{}"), 0)},
		{two, callTableMade(), told(memOf("5", "{0:5} {} {}", "{2:5 0:6} {} {}"), 2)},
		{memOf("b0", "", ""), callTableMade(), told(none, -1)},
		{memOf("", "", "{0:5}"), callTableMade(), told(none, -1)},

		// In its place.
		{two, callTablePut(0, 2, text("x")), said(memOf("5", "{0:5} {} {}", "{2:'x' 0:6} {}"), true)},
		{two, callTablePut(0, 0, impl.Value{}), said(memOf("5", "{0:5} {} {}", "{2:5 0:none} {}"), true)},
		// One more at the end.
		{two, callTablePut(0, 1, number(7)), said(memOf("5", "{0:5} {} {}", "{2:5 0:6 1:7} {}"), true)},
		{two, callTablePut(1, 2, number(7)), said(memOf("5", "{0:5} {} {}", "{2:5 0:6} {2:7}"), true)},
		{two, callTablePut(1, 0, place(impl.VaFunc, 3)), said(memOf("5", "{0:5} {} {}", "{2:5 0:6} {0:f3}"), true)},
		// The last one there is, and one past it; itself.
		{none3, callTablePut(0, 0, place(impl.VaThing, 2)), said(memOf("", "{} {} {}", "{0:t2} {}"), true)},
		{none3, callTablePut(0, 0, place(impl.VaThing, 3)), said(none3, false)},
		{none3, callTablePut(0, 0, place(impl.VaTable, 1)), said(memOf("", "{} {} {}", "{0:b1} {}"), true)},
		{none3, callTablePut(0, 0, place(impl.VaTable, 2)), said(none3, false)},
		{none3, callTablePut(1, 2, place(impl.VaTable, 1)), said(memOf("", "{} {} {}", "{} {2:b1}"), true)},
		// One is not there, or the Value is not right.
		{two, callTablePut(2, 0, number(1)), said(two, false)},
		{two, callTablePut(-1, 0, number(1)), said(two, false)},
		{two, callTablePut(math.MinInt64, 0, number(1)), said(two, false)},
		{two, callTablePut(math.MaxInt64, 0, number(1)), said(two, false)},
		{two, callTablePut(0, 3, number(1)), said(two, false)},
		{two, callTablePut(0, -1, number(1)), said(two, false)},
		{two, callTablePut(0, math.MinInt64, number(1)), said(two, false)},
		{two, callTablePut(0, math.MaxInt64, number(1)), said(two, false)},
		{two, callTablePut(0, 2, text("A")), said(two, false)},
		{two, callTablePut(0, 1, impl.Value{Number: 1}), said(two, false)},
		{none, callTablePut(0, 0, number(1)), said(none, false)},
		{memOf("", "", "{}"), callTablePut(0, 0, number(1)), said(memOf("", "", "{}"), false)},
		{memOf("b1", "{}", "{}"), callTablePut(0, 0, number(1)), said(none, false)},
		{memOf("", "{}", "{0:t1}"), callTablePut(0, 0, number(1)), said(none, false)},

		{two, callTableGet(0, 2), memAnswer{value: number(5), is: true}},
		{two, callTableGet(0, 0), memAnswer{value: number(6), is: true}},
		{memOf("", "{}", "{0:none}"), callTableGet(0, 0), memAnswer{is: true}},
		{memOf("", "{}", "{0:b0}"), callTableGet(0, 0), memAnswer{value: place(impl.VaTable, 0), is: true}},
		{two, callTableGet(0, 1), memAnswer{}},
		{two, callTableGet(1, 2), memAnswer{}},
		{two, callTableGet(2, 2), memAnswer{}},
		{two, callTableGet(-1, 2), memAnswer{}},
		{two, callTableGet(math.MinInt64, 2), memAnswer{}},
		{two, callTableGet(math.MaxInt64, 2), memAnswer{}},
		{two, callTableGet(0, 3), memAnswer{}},
		{two, callTableGet(0, -1), memAnswer{}},
		{two, callTableGet(0, math.MinInt64), memAnswer{}},
		{two, callTableGet(0, math.MaxInt64), memAnswer{}},
		{none, callTableGet(0, 0), memAnswer{}},
		{memOf("b1", "{}", "{0:5}"), callTableGet(0, 0), memAnswer{}},
		{memOf("", "{}", "{0:5 1:6}"), callTableGet(0, 0), memAnswer{}},
		{memOf("", "{}", "{0:5 0:6}"), callTableGet(0, 0), memAnswer{}},
	})
}

// Just room for one, and none.
func TestRoomForOneMore(t *testing.T) {
	cells := func(n int) impl.Mem { return impl.Mem{Cells: make([]impl.Value, n)} }
	things := func(n int) impl.Mem { return impl.Mem{Things: emptyThings(n)} }
	tables := func(n int) impl.Mem { return impl.Mem{Tables: emptyTables(n)} }
	full := fullMem()
	checkAnswered(t, []answeredCase{
		{cells(3999), callCellMade(), told(cells(4000), 3999)}, {cells(4000), callCellMade(), told(cells(4000), -1)}, {cells(4001), callCellMade(), told(impl.Mem{}, -1)},
		{things(999), callThingMade(), told(things(1000), 999)}, {things(1000), callThingMade(), told(things(1000), -1)}, {things(1001), callThingMade(), told(impl.Mem{}, -1)},
		{things(1000), callThingMade(text("A")), told(things(1000), -1)}, {things(1000), callThingMade(place(impl.VaThing, 1000)), told(things(1000), -1)},
		{tables(199), callTableMade(), told(tables(200), 199)}, {tables(200), callTableMade(), told(tables(200), -1)}, {tables(201), callTableMade(), told(impl.Mem{}, -1)},
		// One that is full leaves room in the others.
		{cells(4000), callThingMade(), told(impl.Mem{Cells: make([]impl.Value, 4000), Things: emptyThings(1)}, 0)},
		{cells(4000), callTableMade(), told(impl.Mem{Cells: make([]impl.Value, 4000), Tables: emptyTables(1)}, 0)},
		{things(1000), callCellMade(), told(impl.Mem{Cells: make([]impl.Value, 1), Things: emptyThings(1000)}, 0)},
		{things(1000), callTableMade(), told(impl.Mem{Tables: emptyTables(1), Things: emptyThings(1000)}, 0)},
		{tables(200), callCellMade(), told(impl.Mem{Cells: make([]impl.Value, 1), Tables: emptyTables(200)}, 0)},
		{tables(200), callThingMade(), told(impl.Mem{Things: emptyThings(1), Tables: emptyTables(200)}, 0)},
		{full, callCellMade(), told(full, -1)}, {full, callThingMade(), told(full, -1)}, {full, callTableMade(), told(full, -1)},
		// A Row of each Thing there may be.
		{full, callTablePut(0, 999, number(1)), said(changedAt(full, func(m *impl.Mem) { m.Tables[0].Rows[0].Value = number(1) }), true)},
		{full, callTablePut(199, 999, number(1)), said(changedAt(full, func(m *impl.Mem) { m.Tables[199].Rows = []impl.Row{{Thing: 999, Value: number(1)}} }), true)},
		{full, callTableGet(0, 0), memAnswer{value: place(impl.VaThing, 999), is: true}},
		{full, callSlotPut(999, number(60), number(1)), told(full, impl.FtMany)},
		{full, callSlotPut(999, number(59), number(1)), told(changedAt(full, func(m *impl.Mem) { m.Things[999].Slots[59].Value = number(1) }), impl.FtNone)},
		{full, callCellPut(3999, place(impl.VaTable, 199)), said(changedAt(full, func(m *impl.Mem) { m.Cells[3999] = place(impl.VaTable, 199) }), true)},
	})
	almost := changedAt(full, func(m *impl.Mem) { m.Tables[0].Rows = m.Tables[0].Rows[:999] })
	checkAnswered(t, []answeredCase{{almost, callTablePut(0, 0, place(impl.VaThing, 999)), said(full, true)}})
	for _, c := range fewCalls(full) {
		checkCall(t, c, full)
	}
}

func TestMemoryOfRightMems(t *testing.T) {
	for _, m := range rightMems() {
		for _, c := range manyCalls(m) {
			checkCall(t, c, m)
		}
	}
}

// Each Value there may be, put into each kind of place, as a Key, too.
func TestMemoryOfEachValue(t *testing.T) {
	m := mixedMem()
	for _, v := range append(allValues(), noValues(m)...) {
		calls := []memCall{callThingMade(v), callThingMade(number(1), v), callThingMade(append(make([]impl.Value, 59), v)...)}
		for at := range int64(3) {
			calls = append(calls, callCellPut(at, v), callSlotPut(at, number(0), v), callSlotPut(at, text("new"), v), callSlotPut(at, v, number(1)), callSlotPut(at, v, v), callSlotGet(at, v), callTablePut(at, 1, v), callTablePut(1, at, v))
		}
		for _, c := range calls {
			checkCall(t, c, m)
		}
	}
}

// Of a Mem that is not MemOk each function gives its one fixed answer, whatever
// else is wrong.
func TestMemoryOfWrongMems(t *testing.T) {
	wrong := slices.Concat(tooManyMems(), brokenMems(memOf("t0 b0", "{0:5 'k':t0} {5:b0}", "{1:t1 0:b0}")))
	for _, m := range wrong {
		if impl.MemOk(m) {
			t.Errorf("%s is wrong", showMem(m))
		}
		for _, c := range fewCalls(m) {
			want := memAnswer{}
			switch {
			case strings.Contains(c.name, "Made"):
				want.number = -1
			case strings.HasPrefix(c.name, "Slot"):
				want.number = impl.FtKind
			}
			if got := c.do(theProgram(), m); !sameAnswer(got, want) {
				t.Errorf("%s, of %s, is %s", c.name, showMem(m), showAnswer(got))
			}
		}
	}
	// Broken in two ways at once.
	for _, m := range brokenMems(memOf("t0", "{0:5}", "{0:b0}")) {
		for _, both := range brokenMems(m) {
			for _, c := range []memCall{callMemOk(), callCellMade(), callCellPut(7, text("A")), callSlotPut(0, number(0), number(1)), callSlotGet(0, number(0)), callTableGet(0, 0)} {
				got := c.do(theProgram(), both)
				if !sameMem(got.mem, impl.Mem{}) || got.value != (impl.Value{}) || got.is {
					t.Errorf("%s, of %s, is %s", c.name, showMem(both), showAnswer(got))
				}
			}
		}
	}
}

// All ways to do five things one after the other, out of these.
func TestMemoryStepByStep(t *testing.T) {
	calls := []memCall{
		callCellMade(), callCellPut(0, number(5)), callCellPut(1, place(impl.VaThing, 0)), callThingMade(), callThingMade(number(5), place(impl.VaThing, 0)), callSlotPut(0, number(0), text("x")), callSlotPut(0, text("0"), place(impl.VaThing, 1)), callSlotPut(1, number(1), place(impl.VaTable, 0)),
		callTableMade(), callTablePut(0, 0, number(7)), callTablePut(0, 1, place(impl.VaThing, 0)), callTablePut(0, 0, place(impl.VaTable, 1)),
	}
	asked := []memCall{callMemOk(), callSlotGet(0, number(0)), callSlotGet(1, text("0")), callTableGet(0, 0), callTableGet(0, 1)}
	var check func(m impl.Mem, left int)
	check = func(m impl.Mem, left int) {
		for _, c := range asked {
			checkCall(t, c, m)
		}
		if left == 0 {
			return
		}
		for _, c := range calls {
			checkCall(t, c, m)
			check(c.do(theProgram(), m).mem, left-1)
		}
	}
	check(impl.Mem{}, 5)
}

// Promise 8, from here on.

// keysOf are the Keys that some Thing has, and a few more, each once.
func keysOf(m impl.Mem) []impl.Value {
	out := valuesOf("0 1 'k' '5' 5 'new'")
	for _, thing := range m.Things {
		for _, slot := range thing.Slots {
			if !slices.Contains(out, slot.Key) {
				out = append(out, slot.Key)
			}
		}
	}
	return out
}

// A memPlace is one place that can be asked for what it has: a Cell, a Key of a
// Thing, a Thing of a Table.
type memPlace struct {
	kind string
	at   int64
	of   impl.Value
}

type memContent struct {
	value impl.Value
	is    bool
}

// contentsOf asks for all there is by the functions of the chapter alone.
func contentsOf(m impl.Mem) map[memPlace]memContent {
	out := map[memPlace]memContent{}
	for at, v := range m.Cells {
		out[memPlace{kind: "cell", at: int64(at)}] = memContent{v, true}
	}
	for at := range int64(len(m.Things)) {
		for _, key := range keysOf(m) {
			v, fault := impl.SlotGet(m, at, key)
			out[memPlace{"slot", at, key}] = memContent{v, fault == impl.FtNone}
		}
		out[memPlace{"slots of", at, impl.Value{}}] = memContent{number(int64(len(m.Things[at].Slots))), true}
	}
	for at := range int64(len(m.Tables)) {
		for thing := range int64(len(m.Things)) {
			v, is := impl.TableGet(m, at, thing)
			out[memPlace{"row", at, number(thing)}] = memContent{v, is}
		}
		out[memPlace{"rows of", at, impl.Value{}}] = memContent{number(int64(len(m.Tables[at].Rows))), true}
	}
	return out
}

// checkOnlyThere asks that of all places just these differ, and have that now.
func checkOnlyThere(t *testing.T, name string, before impl.Mem, after impl.Mem, now map[memPlace]memContent) {
	t.Helper()
	want, got := contentsOf(before), contentsOf(after)
	for at, content := range now {
		want[at] = content
	}
	for at, content := range want {
		if got[at] != content {
			t.Errorf("%s, of %s: at %v there is %v; want %v", name, showMem(before), at, got[at], content)
		}
	}
	// A Key that is new was asked of the other Things, too: none has it.
	for at, content := range got {
		if _, is := want[at]; !is && content != (memContent{is: true}) {
			t.Errorf("%s, of %s: at %v there is %v, and nothing was put there", name, showMem(before), at, content)
		}
	}
	if !impl.MemOk(after) || len(after.Cells) < len(before.Cells) || len(after.Things) < len(before.Things) || len(after.Tables) < len(before.Tables) {
		t.Errorf("%s, of %s: %s", name, showMem(before), showMem(after))
	}
}

func promiseMems() []impl.Mem {
	mems := []impl.Mem{mixedMem(), {Things: []impl.Thing{slotsOf(59), slotsOf(60)}, Tables: []impl.Table{rowsOf(2), rowsOf(1)}}}
	for _, m := range rightMems() {
		if len(m.Things) < 4 && !slices.ContainsFunc(m.Things, func(thing impl.Thing) bool { return len(thing.Slots) > 20 }) {
			mems = append(mems, m)
		}
	}
	return mems
}

func TestWhatWasMadeIsThere(t *testing.T) {
	for _, m := range promiseMems() {
		made, at := impl.CellMade(m)
		if at != int64(len(m.Cells)) || len(made.Cells) != len(m.Cells)+1 {
			t.Fatalf("%s: %s, %d", showMem(m), showMem(made), at)
		}
		checkOnlyThere(t, "CellMade", m, made, map[memPlace]memContent{{kind: "cell", at: at}: {impl.Value{}, true}})

		list := valuesOf("5 none 'x' f2")
		made, at = impl.ThingMade(m, list)
		if at != int64(len(m.Things)) || len(made.Things) != len(m.Things)+1 {
			t.Fatalf("%s: %s, %d", showMem(m), showMem(made), at)
		}
		now := map[memPlace]memContent{{kind: "slots of", at: at}: {number(4), true}}
		for _, key := range keysOf(made) {
			now[memPlace{"slot", at, key}] = memContent{is: true}
		}
		for n, v := range list {
			now[memPlace{"slot", at, number(int64(n))}] = memContent{v, true}
		}
		for table := range int64(len(m.Tables)) {
			now[memPlace{"row", table, number(at)}] = memContent{}
		}
		checkOnlyThere(t, "ThingMade", m, made, now)

		made, at = impl.TableMade(m)
		if at != int64(len(m.Tables)) || len(made.Tables) != len(m.Tables)+1 {
			t.Fatalf("%s: %s, %d", showMem(m), showMem(made), at)
		}
		now = map[memPlace]memContent{{kind: "rows of", at: at}: {number(0), true}}
		for thing := range int64(len(m.Things)) {
			now[memPlace{"row", at, number(thing)}] = memContent{}
		}
		checkOnlyThere(t, "TableMade", m, made, now)
	}
}

func TestWhatWasPutIsThere(t *testing.T) {
	for _, m := range promiseMems() {
		for _, v := range []impl.Value{{}, number(77), text("put"), place(impl.VaFunc, 8)} {
			for at := range int64(len(m.Cells)) {
				put, is := impl.CellPut(m, at, v)
				if !is {
					t.Errorf("%s: %s into Cell %d", showMem(m), wordOf(v), at)
				}
				checkOnlyThere(t, "CellPut", m, put, map[memPlace]memContent{{kind: "cell", at: at}: {v, true}})
			}
			for at := range int64(len(m.Things)) {
				checkSlotsArePut(t, m, at, v)
			}
			for at := range int64(len(m.Tables)) {
				checkRowsArePut(t, m, at, v)
			}
		}
	}
}

func checkSlotsArePut(t *testing.T, m impl.Mem, at int64, v impl.Value) {
	t.Helper()
	for _, key := range []impl.Value{number(0), number(2), text("k"), text("5"), number(5), text("new"), number(59)} {
		count, there := int64(len(m.Things[at].Slots)), slotSlowly(m.Things[at], key) >= 0
		put, fault := impl.SlotPut(m, at, key, v)
		if !there && count >= 60 {
			if fault != impl.FtMany || !sameMem(put, m) {
				t.Errorf("%s: %s under %s of Thing %d: %d", showMem(m), wordOf(v), wordOf(key), at, fault)
			}
			continue
		}
		if !there {
			count++
		}
		if fault != impl.FtNone || int64(len(put.Things[at].Slots)) != count {
			t.Fatalf("%s: %s under %s of Thing %d: %d, %s", showMem(m), wordOf(v), wordOf(key), at, fault, showMem(put))
		}
		if slot := put.Things[at].Slots[count-1]; !there && slot != (impl.Slot{Key: key, Value: v}) {
			t.Errorf("%s: the last one is %v", showMem(put), slot)
		}
		checkOnlyThere(t, "SlotPut", m, put, map[memPlace]memContent{{"slot", at, key}: {v, true}, {kind: "slots of", at: at}: {number(count), true}})
		// Twice under one Key: once, as it was put last.
		again, fault := impl.SlotPut(put, at, key, text("last"))
		if fault != impl.FtNone {
			t.Errorf("%s: again: %d", showMem(put), fault)
		}
		checkOnlyThere(t, "SlotPut again", m, again, map[memPlace]memContent{{"slot", at, key}: {text("last"), true}, {kind: "slots of", at: at}: {number(count), true}})
	}
}

func checkRowsArePut(t *testing.T, m impl.Mem, at int64, v impl.Value) {
	t.Helper()
	for thing := range int64(len(m.Things)) {
		count, there := int64(len(m.Tables[at].Rows)), rowSlowly(m.Tables[at], thing) >= 0
		if !there {
			count++
		}
		put, is := impl.TablePut(m, at, thing, v)
		if !is || int64(len(put.Tables[at].Rows)) != count {
			t.Fatalf("%s: %s of Thing %d in Table %d: %v, %s", showMem(m), wordOf(v), thing, at, is, showMem(put))
		}
		if row := put.Tables[at].Rows[count-1]; !there && row != (impl.Row{Thing: thing, Value: v}) {
			t.Errorf("%s: the last one is %v", showMem(put), row)
		}
		checkOnlyThere(t, "TablePut", m, put, map[memPlace]memContent{{"row", at, number(thing)}: {v, true}, {kind: "rows of", at: at}: {number(count), true}})
		// Twice of one Thing: once, as it was put last.
		again, is := impl.TablePut(put, at, thing, text("last"))
		if !is {
			t.Errorf("%s: again: %v", showMem(put), is)
		}
		checkOnlyThere(t, "TablePut again", m, again, map[memPlace]memContent{{"row", at, number(thing)}: {text("last"), true}, {kind: "rows of", at: at}: {number(count), true}})
	}
}

// From nothing to all there may be, one after the other.
func TestMemoryFilledUp(t *testing.T) {
	m, at := impl.Mem{}, int64(0)
	for n := range int64(201) {
		if m, at = impl.TableMade(m); n < 200 && at != n || n == 200 && at != -1 {
			t.Fatalf("Table %d is at %d", n, at)
		}
	}
	for n := range int64(1001) {
		if m, at = impl.ThingMade(m, []impl.Value{number(n)}); n < 1000 && at != n || n == 1000 && at != -1 {
			t.Fatalf("Thing %d is at %d", n, at)
		}
	}
	for n := range int64(4001) {
		if m, at = impl.CellMade(m); n < 4000 && at != n || n == 4000 && at != -1 {
			t.Fatalf("Cell %d is at %d", n, at)
		}
	}
	for n := range int64(60) {
		fault := int64(impl.FtNone)
		if m, fault = impl.SlotPut(m, 500, text("k"+strconv.Itoa(int(n))), number(n)); n < 59 && fault != impl.FtNone || n == 59 && fault != impl.FtMany {
			t.Fatalf("Slot %d: %d", n, fault)
		}
	}
	want := impl.Mem{Cells: make([]impl.Value, 4000), Tables: emptyTables(200), Things: manyOf(1000, func(n int64) impl.Thing {
		return impl.Thing{Slots: []impl.Slot{{Key: number(0), Value: number(n)}}}
	})}
	for n := range int64(59) {
		want.Things[500].Slots = append(want.Things[500].Slots, impl.Slot{Key: text("k" + strconv.Itoa(int(n))), Value: number(n)})
	}
	if !sameMem(m, want) || !impl.MemOk(m) {
		t.Errorf("%s", showMem(m))
	}
}

// Promise 21, for the functions of chapter 8, from here on.

// roomyMem is m with spare room behind each list, at every depth, and something
// that could stand there in it.
func roomyMem(m impl.Mem) impl.Mem {
	spareSlot, spareRow := impl.Slot{Key: text("spare"), Value: number(1)}, impl.Row{Thing: 77, Value: number(1)}
	out := impl.Mem{}
	out.Cells = append(slices.Clone(m.Cells), number(77), number(78))[:len(m.Cells)]
	for _, thing := range append(slices.Clone(m.Things), impl.Thing{}, impl.Thing{}) {
		slots := append(slices.Clone(thing.Slots), spareSlot, spareSlot)[:len(thing.Slots)]
		out.Things = append(out.Things, impl.Thing{Slots: slots})
	}
	out.Things = out.Things[:len(m.Things)]
	for _, table := range append(slices.Clone(m.Tables), impl.Table{}, impl.Table{}) {
		rows := append(slices.Clone(table.Rows), spareRow, spareRow)[:len(table.Rows)]
		out.Tables = append(out.Tables, impl.Table{Rows: rows})
	}
	out.Tables = out.Tables[:len(m.Tables)]
	return out
}

// wholeOf is a copy of all memory that a Mem has, the spare room, too.
func wholeOf(m impl.Mem) impl.Mem {
	out := impl.Mem{Cells: slices.Clone(m.Cells[:cap(m.Cells)])}
	for _, thing := range m.Things[:cap(m.Things)] {
		out.Things = append(out.Things, impl.Thing{Slots: slices.Clone(thing.Slots[:cap(thing.Slots)])})
	}
	for _, table := range m.Tables[:cap(m.Tables)] {
		out.Tables = append(out.Tables, impl.Table{Rows: slices.Clone(table.Rows[:cap(table.Rows)])})
	}
	return out
}

// marked writes into all memory that a Mem has, from the depth up, and asks
// whether two lists of it share any: then one has the other's mark.
func marked(t *testing.T, name string, m impl.Mem) {
	t.Helper()
	for n, thing := range m.Things {
		mark(thing.Slots, impl.Slot{Key: number(int64(n))})
	}
	for n, table := range m.Tables {
		mark(table.Rows, impl.Row{Thing: int64(n)})
	}
	for n, thing := range m.Things {
		if !hasMark(thing.Slots, impl.Slot{Key: number(int64(n))}) {
			t.Fatalf("%s: Thing %d shares memory with another one", name, n)
		}
	}
	for n, table := range m.Tables {
		if !hasMark(table.Rows, impl.Row{Thing: int64(n)}) {
			t.Fatalf("%s: Table %d shares memory with another one", name, n)
		}
	}
	mark(m.Cells, number(-1))
	clear(m.Things[:cap(m.Things)])
	clear(m.Tables[:cap(m.Tables)])
}

func mark[T any](l []T, with T) {
	all := l[:cap(l)]
	for i := range all {
		all[i] = with
	}
}

func hasMark[T comparable](l []T, with T) bool {
	return !slices.ContainsFunc(l[:cap(l)], func(one T) bool { return one != with })
}

// memoryMems are those at which what is shared would show.
func memoryMems() []impl.Mem {
	wrong := []impl.Mem{memOf("5 t7", "{0:5} {0:1 0:1}", "{0:5} {}"), memOf("5 'A'", "{0:5}", "{9:5}"), {Cells: make([]impl.Value, 4001)}}
	return slices.Concat(promiseMems(), wrong, []impl.Mem{{Cells: make([]impl.Value, 4000), Things: emptyThings(1000), Tables: emptyTables(200)}, {Things: []impl.Thing{slotsOf(61), slotsOf(60)}, Tables: []impl.Table{rowsOf(2), rowsOf(2)}}})
}

func TestMemoryLeavesWhatIsGiven(t *testing.T) {
	for _, given := range memoryMems() {
		m := roomyMem(given)
		was := wholeOf(m)
		for _, c := range fewCalls(m) {
			answer := c.do(theProgram(), m)
			kept := copyOf(answer.mem)
			if !reflect.DeepEqual(wholeOf(m), was) {
				t.Fatalf("%s: %s became %s", c.name, showMem(was), showMem(wholeOf(m)))
			}
			other := c.do(theProgram(), m)
			marked(t, c.name, other.mem)
			if !reflect.DeepEqual(wholeOf(m), was) || !sameMem(answer.mem, kept) {
				t.Fatalf("%s, of %s: an answer shares memory with another one, or with what was given", c.name, showMem(given))
			}
			if again := c.do(theProgram(), m); !sameMem(again.mem, kept) || again.number != answer.number || again.is != answer.is || again.value != answer.value {
				t.Fatalf("%s, of %s: %s, and again %s", c.name, showMem(given), showAnswer(answer), showAnswer(again))
			}
		}
	}
}

// What was given may change: the answer is as it was.
func TestMemoryAnswersStay(t *testing.T) {
	for _, given := range memoryMems() {
		for _, c := range fewCalls(given) {
			m := roomyMem(given)
			answer := c.do(theProgram(), m)
			kept := copyOf(answer.mem)
			marked(t, c.name, m)
			if !sameMem(answer.mem, kept) {
				t.Fatalf("%s, of %s: %s became %s", c.name, showMem(given), showMem(kept), showMem(answer.mem))
			}
		}
	}
}

func TestThingMadeLeavesItsList(t *testing.T) {
	for _, count := range []int{0, 1, 2, 59, 60, 61} {
		room := manyOf(count+3, func(n int64) impl.Value { return number(n) })
		was := slices.Clone(room)
		list := room[:count]
		for _, m := range memoryMems() {
			made, at := impl.ThingMade(m, list)
			kept := copyOf(made)
			if !slices.Equal(room, was) || count > 60 && at != -1 {
				t.Fatalf("%s became %s, at %d", wordsOfValues(was), wordsOfValues(room), at)
			}
			mark(room, text("over"))
			if !sameMem(made, kept) {
				t.Fatalf("%s became %s", showMem(kept), showMem(made))
			}
			copy(room, was)
			marked(t, "ThingMade", made)
			if !slices.Equal(room, was) {
				t.Fatalf("%s became %s", wordsOfValues(was), wordsOfValues(room))
			}
		}
	}
	// The list may be that of the Cells itself.
	m := roomyMem(mixedMem())
	was := wholeOf(m)
	made, at := impl.ThingMade(m, m.Cells)
	if want, _ := thingMadeSlowly(m, m.Cells); at != 3 || !sameMem(made, want) || !reflect.DeepEqual(wholeOf(m), was) {
		t.Errorf("%s, %d", showMem(made), at)
	}
}

// Lists that are handed in may share memory: what is put into one is not put
// into the other.
func TestMemoryOfSharedLists(t *testing.T) {
	slots, rows := slotsOf(3).Slots, rowsOf(2).Rows
	m := impl.Mem{Things: []impl.Thing{{Slots: slots}, {Slots: slots}, {Slots: slots[:2]}}, Tables: []impl.Table{{Rows: rows}, {Rows: rows}, {Rows: rows[:1]}}}
	for _, c := range manyCalls(m) {
		checkCall(t, c, m)
	}
	put, _ := impl.SlotPut(m, 2, text("new"), number(9))
	put, _ = impl.TablePut(put, 2, 2, number(9))
	want := copyOf(m)
	want.Things[2].Slots = append(want.Things[2].Slots[:2:2], impl.Slot{Key: text("new"), Value: number(9)})
	want.Tables[2].Rows = append(want.Tables[2].Rows[:1:1], impl.Row{Thing: 2, Value: number(9)})
	if !sameMem(put, want) {
		t.Errorf("%s", showMem(put))
	}
	marked(t, "shared lists", put)
}

// What stands in the spare room behind a list is no part of it, be it right or
// wrong.
func TestMemoryDoesNotReadTheSpareRoom(t *testing.T) {
	for _, given := range promiseMems() {
		for _, c := range fewCalls(given) {
			if got, want := c.do(theProgram(), roomyMem(given)), c.do(theProgram(), given); !sameAnswer(got, want) {
				t.Errorf("%s, of %s: %s; with spare room %s", c.name, showMem(given), showAnswer(want), showAnswer(got))
			}
		}
	}
}

// What is asked again is answered again, whatever was asked between.
func TestMemoryKeepsNothing(t *testing.T) {
	mems := memoryMems()
	for range 2 {
		for _, m := range mems {
			for _, c := range []memCall{callCellMade(), callThingMade(number(5)), callSlotPut(0, number(0), number(9)), callSlotGet(0, number(0)), callTableMade(), callTablePut(0, 0, number(9)), callTableGet(0, 0)} {
				checkCall(t, c, m)
			}
		}
		slices.Reverse(mems)
	}
}

// The line "mem" of the document's chapter Ways.
func TestMemoryIsAGenericList(t *testing.T) {
	path := "../impl/l08_mem.go"
	generic := map[string]bool{}
	hasNode(t, path, func(n ast.Node) bool {
		if spec, is := n.(*ast.TypeSpec); is {
			generic[spec.Name.Name] = spec.TypeParams != nil
		}
		return false
	})
	used := hasNode(t, path, func(n ast.Node) bool {
		field, is := n.(*ast.Field)
		if !is {
			return false
		}
		index, is := field.Type.(*ast.IndexExpr)
		if !is {
			return false
		}
		name, is := index.X.(*ast.Ident)
		return is && generic[name.Name]
	})
	if !used {
		t.Error("no generic type in the layer of the memory")
	}
}
