package tests

import (
	"cmp"
	"fmt"
	"go/ast"
	"go/parser"
	"go/token"
	"maps"
	"math"
	"math/rand/v2"
	"path/filepath"
	"reflect"
	"slices"
	"strings"
	"testing"

	"loop.example/g00544/impl"
)

// Promise 21, of all functions of all chapters at once: each answers at every
// argument, none panics, answers are new memory, and arguments stay.

func allFunctions() map[string]any {
	return map[string]any{
		"ValueOk": impl.ValueOk, "Plus": impl.Plus, "Less": impl.Less, "Times": impl.Times, "Below": impl.Below, "Same": impl.Same, "Truth": impl.Truth, "TextOf": impl.TextOf, "Joined": impl.Joined,
		"NameOk": impl.NameOk, "SignOk": impl.SignOk, "ReadNumber": impl.ReadNumber, "SignOf": impl.SignOf, "ValueIn": impl.ValueIn, "SignsOf": impl.SignsOf, "ShowSigns": impl.ShowSigns,
		"ItemEnd": impl.ItemEnd, "ItemsIn": impl.ItemsIn, "HeadOf": impl.HeadOf, "DepthOf": impl.DepthOf, "Spliced": impl.Spliced, "Inside": impl.Inside,
		"Reserved": impl.Reserved, "SumEnd": impl.SumEnd, "DeedEnd": impl.DeedEnd, "PlayOk": impl.PlayOk, "Count": impl.Count,
		"Declared": impl.Declared, "FreeIn": impl.FreeIn, "Secret": impl.Secret, "Scoped": impl.Scoped,
		"NewIn": impl.NewIn, "OldOk": impl.OldOk, "VarsOf": impl.VarsOf,
		"NamesIn": impl.NamesIn, "Fresh": impl.Fresh, "FreshMany": impl.FreshMany,
		"MemOk": impl.MemOk, "CellMade": impl.CellMade, "CellPut": impl.CellPut, "ThingMade": impl.ThingMade, "SlotPut": impl.SlotPut, "SlotGet": impl.SlotGet, "TableMade": impl.TableMade, "TablePut": impl.TablePut, "TableGet": impl.TableGet,
		"EnvOk": impl.EnvOk, "Bound": impl.Bound, "Looked": impl.Looked,
		"Played": impl.Played, "Ended": impl.Ended, "Words": impl.Words,
		"Begins": impl.Begins, "Alike": impl.Alike, "SaidBy": impl.SaidBy,
		"DefaultsIn": impl.DefaultsIn, "Given": impl.Given, "TakesIn": impl.TakesIn, "Taken": impl.Taken, "JoinsIn": impl.JoinsIn, "Unjoined": impl.Unjoined, "HiddenIn": impl.HiddenIn, "Bared": impl.Bared, "ForsIn": impl.ForsIn, "Turned": impl.Turned,
		"Captured": impl.Captured, "LoopDos": impl.LoopDos, "Wrapped": impl.Wrapped, "LetsIn": impl.LetsIn, "Lifted": impl.Lifted,
		"Passes": impl.Passes, "Lowered": impl.Lowered, "Growth": impl.Growth,
		"Bench": impl.Bench,
	}
}

// exportedFunctions are those that stand in the layers' files.
func exportedFunctions(t *testing.T) []string {
	paths, err := filepath.Glob("../impl/l*.go")
	if err != nil || len(paths) != 20 {
		t.Fatalf("%d layers, %v", len(paths), err)
	}
	var out []string
	for _, path := range paths {
		f, err := parser.ParseFile(token.NewFileSet(), path, nil, parser.SkipObjectResolution)
		if err != nil {
			t.Fatal(err)
		}
		for _, d := range f.Decls {
			if one, is := d.(*ast.FuncDecl); is && one.Recv == nil && one.Name.IsExported() {
				out = append(out, one.Name.Name)
			}
		}
	}
	slices.Sort(out)
	return out
}

// oddArguments are right and wrong ones of each type that a function takes.
func oddArguments(t *testing.T) map[reflect.Type][]any {
	out := map[reflect.Type][]any{}
	add := func(one any) { out[reflect.TypeOf(one)] = append(out[reflect.TypeOf(one)], one) }
	add(false)
	add(true)
	for _, n := range []int64{0, 1, 2, 3, 5, 7, 8, 9, 59, 60, 61, 200, 201, 400, 2000, 2001, 20000, 20001, 99999, 100000, 999999999, 1000000000, 1000000001, 1 << 32, -1, -2, -60, -999999999, -1000000000, math.MinInt32, math.MaxInt32, math.MinInt64, math.MinInt64 + 1, math.MaxInt64 - 1, math.MaxInt64} {
		add(n)
	}
	for _, v := range allValues() {
		add(v)
	}
	for _, s := range slices.Concat(rightSigns(), wrongSigns(), reservedWords(), benchTexts(), noPlays()) {
		add(s)
	}
	for _, l := range lowerLists(t) {
		add(l)
	}
	for _, l := range [][]string{manyNames(400), manyNames(401), slices.Repeat([]string{"("}, 50000), slices.Repeat([]string{")"}, 50000), slices.Repeat([]string{"(", "do", ")"}, 20000), wrongSigns(), {"x", "y"}, {"x", "x"}, {"x", "X"}} {
		add(l)
	}
	for _, m := range slices.Concat(memoryMems(), tooManyMems()) {
		add(m)
	}
	add([]impl.Value(nil))
	add([]impl.Value{})
	for _, n := range []int{1, 2, 59, 60, 61, 5000} {
		add(manyOf(n, number))
		add(make([]impl.Value, n))
	}
	add(rightValues())
	add(wrongValues())
	for _, env := range slices.Concat(givenEnvs(), rightEnvs(), wrongEnvs()) {
		add(env)
	}
	for _, s := range slices.Concat(sameSaids(), longerSaids(), otherSaids()) {
		for n, fault := range everyFault() {
			add(impl.Show{Said: s.a, Fault: fault, Steps: int64(n)})
			add(impl.Show{Said: s.b, Fault: fault, Steps: -fault})
		}
	}
	return out
}

func benchTexts() []string {
	out := append(refusedLines(), "", "\n", "run", "run\nlow\nsame\ngrow\n", strings.Repeat("\n", 80), strings.Repeat("run\n", 81), strings.Repeat("x", 8000), strings.Repeat("x", 8001), strings.Repeat("\n", 100000))
	for _, c := range keepers() {
		out = append(out, c.page, "play "+c.page+"\nrun\nold\nnew\npass 7\nlow\nsame\ngrow\nfresh 0\n")
	}
	return out
}

// roomyCopy has spare room behind each list, which is a copy of what is there.
func roomyCopy(v reflect.Value) reflect.Value {
	switch v.Kind() {
	case reflect.Slice:
		if v.IsNil() {
			return v
		}
		out := reflect.MakeSlice(v.Type(), v.Len(), v.Len()+3)
		for n := range v.Len() {
			out.Index(n).Set(roomyCopy(v.Index(n)))
		}
		return out
	case reflect.Struct:
		out := reflect.New(v.Type()).Elem()
		for n := range v.NumField() {
			out.Field(n).Set(roomyCopy(v.Field(n)))
		}
		return out
	}
	return v
}

// wholeCopy has the spare room of each list as a part of it.
func wholeCopy(v reflect.Value) reflect.Value {
	if v.Kind() == reflect.Slice && !v.IsNil() {
		out := reflect.MakeSlice(v.Type(), v.Cap(), v.Cap())
		room := v.Slice(0, v.Cap())
		for n := range v.Cap() {
			out.Index(n).Set(wholeCopy(room.Index(n)))
		}
		return out
	}
	if v.Kind() == reflect.Struct {
		out := reflect.New(v.Type()).Elem()
		for n := range v.NumField() {
			out.Field(n).Set(wholeCopy(v.Field(n)))
		}
		return out
	}
	return v
}

// A stretch is the memory of a list, with its spare room.
type stretch struct{ from, to uintptr }

func stretchesOf(v reflect.Value) []stretch {
	var out []stretch
	switch v.Kind() {
	case reflect.Slice:
		if v.Cap() > 0 {
			out = append(out, stretch{v.Pointer(), v.Pointer() + uintptr(v.Cap())*v.Type().Elem().Size()})
		}
		if kind := v.Type().Elem().Kind(); kind == reflect.Struct || kind == reflect.Slice {
			for n := range v.Len() {
				out = append(out, stretchesOf(v.Index(n))...)
			}
		}
	case reflect.Struct:
		for n := range v.NumField() {
			out = append(out, stretchesOf(v.Field(n))...)
		}
	}
	return out
}

// areApart asks that no two stretches share any.
func areApart(list []stretch) bool {
	slices.SortFunc(list, func(a stretch, b stretch) int { return cmp.Compare(a.from, b.from) })
	for n := 1; n < len(list); n++ {
		if list[n].from < list[n-1].to {
			return false
		}
	}
	return true
}

// called tells what a function answers, and what it panics with.
func called(f reflect.Value, in []reflect.Value) (out []reflect.Value, panics any) {
	defer func() { panics = recover() }()
	return f.Call(in), nil
}

func sameAnswers(a []reflect.Value, b []reflect.Value) bool {
	for n := range a {
		if !reflect.DeepEqual(a[n].Interface(), b[n].Interface()) {
			return false
		}
	}
	return len(a) == len(b)
}

// stretchesOfAll are those of several lists of values; each list on its own has
// none that are shared.
func stretchesOfAll(values ...[]reflect.Value) []stretch {
	var out []stretch
	for _, list := range values {
		for _, v := range list {
			out = append(out, stretchesOf(v)...)
		}
	}
	return out
}

func shortCall(name string, in []reflect.Value) string {
	out := name
	for _, v := range in {
		shown := fmt.Sprintf("%v", v.Interface())
		out += " " + shown[:min(len(shown), 150)]
	}
	return out
}

// checkFunction calls it twice, with the same arguments, which have spare room.
func checkFunction(t *testing.T, name string, f reflect.Value, in []reflect.Value) {
	t.Helper()
	var was []reflect.Value
	for n := range in {
		in[n] = roomyCopy(in[n])
		was = append(was, wholeCopy(in[n]))
	}
	first, panics := called(f, in)
	if panics != nil {
		t.Fatalf("%s: panics with %v", shortCall(name, in), panics)
	}
	second, _ := called(f, in)
	if !sameAnswers(first, second) {
		t.Fatalf("%s: %v, and again %v", shortCall(name, in), first, second)
	}
	for n := range in {
		if !reflect.DeepEqual(wholeCopy(in[n]).Interface(), was[n].Interface()) {
			t.Fatalf("%s: an argument has become another one", shortCall(name, in))
		}
	}
	if !areApart(stretchesOfAll(in, first, second)) {
		t.Fatalf("%s: an answer shares memory", shortCall(name, in))
	}
}

func TestEveryFunctionAnswersAtEveryArgument(t *testing.T) {
	t.Parallel()
	functions := allFunctions()
	if names := slices.Sorted(maps.Keys(functions)); !slices.Equal(names, exportedFunctions(t)) {
		t.Fatalf("asked are %q; there are %q", names, exportedFunctions(t))
	}
	odd := oddArguments(t)
	r := rand.New(rand.NewPCG(21, 20))
	for _, name := range slices.Sorted(maps.Keys(functions)) {
		f := reflect.ValueOf(functions[name])
		ways := 1
		for n := range f.Type().NumIn() {
			if len(odd[f.Type().In(n)]) == 0 {
				t.Fatalf("%s: there are no arguments of type %v", name, f.Type().In(n))
			}
			ways *= len(odd[f.Type().In(n)])
		}
		// Of one argument all are asked, of several some.
		for turn := range min(ways, 1500) {
			var in []reflect.Value
			for n := range f.Type().NumIn() {
				of := odd[f.Type().In(n)]
				which := turn
				if n > 0 || turn >= len(of) {
					which = r.IntN(len(of))
				}
				in = append(in, reflect.ValueOf(of[which]))
			}
			checkFunction(t, name, f, in)
		}
	}
}
