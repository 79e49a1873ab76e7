package tests

import (
	"bytes"
	"encoding/binary"
	"fmt"
	"go/ast"
	"go/parser"
	"go/token"
	"math"
	"path/filepath"
	"reflect"
	"runtime"
	"slices"
	"strings"
	"sync"
	"testing"
	"testing/synctest"

	"loop.example/g00189/impl"
)

// allFunctions are the exported functions of all chapters, by their names.
func allFunctions() map[string]any {
	return map[string]any{
		"PutNum": impl.PutNum, "GetNum": impl.GetNum, "PutText": impl.PutText, "GetText": impl.GetText,
		"NameOk": impl.NameOk, "PoolOk": impl.PoolOk, "Make": impl.Make, "MakeList": impl.MakeList, "ListOf": impl.ListOf, "Same": impl.Same, "SizeOf": impl.SizeOf,
		"Read": impl.Read, "Write": impl.Write,
		"CodeOk": impl.CodeOk, "DefOf": impl.DefOf, "Compile": impl.Compile,
		"PrimOf": impl.PrimOf, "PrimName": impl.PrimName, "PrimArgs": impl.PrimArgs, "PrimDo": impl.PrimDo,
		"MachineOk": impl.MachineOk, "MachineNew": impl.MachineNew, "MachineOf": impl.MachineOf, "Step": impl.Step, "Answer": impl.Answer,
		"Reach": impl.Reach, "Keep": impl.Keep, "Copy": impl.Copy, "Tidy": impl.Tidy,
		"ValuePack": impl.ValuePack, "ValueRead": impl.ValueRead, "MachinePack": impl.MachinePack, "MachineRead": impl.MachineRead,
		"RunFor": impl.RunFor, "Alone": impl.Alone,
		"LinkOk": impl.LinkOk, "LinkSend": impl.LinkSend, "LinkShow": impl.LinkShow, "LinkTake": impl.LinkTake, "LinkAck": impl.LinkAck,
		"LeasesOk": impl.LeasesOk, "LeaseAsk": impl.LeaseAsk, "LeaseDrop": impl.LeaseDrop, "Kept": impl.Kept, "GripGood": impl.GripGood, "LeaseGive": impl.LeaseGive,
		"ProcOk": impl.ProcOk, "ProcNew": impl.ProcNew, "ProcStep": impl.ProcStep, "ProcPack": impl.ProcPack, "ProcRead": impl.ProcRead, "ProcPost": impl.ProcPost,
		"MailWord": impl.MailWord, "MailMove": impl.MailMove, "MailRead": impl.MailRead, "WorldOk": impl.WorldOk, "WorldNew": impl.WorldNew, "HomeOf": impl.HomeOf, "WhereIs": impl.WhereIs,
		"DeedOk": impl.DeedOk, "WorldDo": impl.WorldDo, "WorldRun": impl.WorldRun,
		"JudgeOrder": impl.JudgeOrder, "JudgeOnce": impl.JudgeOnce, "JudgeQueue": impl.JudgeQueue, "JudgeAll": impl.JudgeAll, "Prints": impl.Prints,
		"Round": impl.Round, "Days": impl.Days,
		"DeedLine": impl.DeedLine, "DeedParse": impl.DeedParse, "WorldLine": impl.WorldLine, "Session": impl.Session,
	}
}

// functionNames: in their order.
func functionNames() []string {
	var names []string
	for name := range allFunctions() {
		names = append(names, name)
	}
	slices.Sort(names)
	return names
}

// No function is left out: those of the table are just those that the program exports.
func TestAllFunctionsAreAsked(t *testing.T) {
	files, _ := filepath.Glob("../impl/*.go")
	var exported []string
	for _, name := range files {
		if strings.HasSuffix(name, "_test.go") {
			continue
		}
		file, err := parser.ParseFile(token.NewFileSet(), name, nil, 0)
		if err != nil {
			t.Fatal(err)
		}
		for _, d := range file.Decls {
			if f, ok := d.(*ast.FuncDecl); ok && f.Recv == nil && f.Name.IsExported() {
				exported = append(exported, f.Name.Name)
			}
		}
	}
	slices.Sort(exported)
	if names := functionNames(); !slices.Equal(names, exported) {
		t.Errorf("asked are %q, and there are %q", names, exported)
	}
}

// A stock has arguments by their types.
type stock map[reflect.Type][]reflect.Value

func (s stock) add(values ...any) {
	for _, v := range values {
		s[reflect.TypeOf(v)] = append(s[reflect.TypeOf(v)], reflect.ValueOf(v))
	}
}

// addAll adds all of a map, in the order of its names.
func addAll[T any](s stock, list map[string]T) {
	var names []string
	for why := range list {
		names = append(names, why)
	}
	slices.Sort(names)
	for _, why := range names {
		s.add(list[why])
	}
}

func someInts() []int {
	return []int{math.MinInt, -1 << 32, -lastPid - 1, -lastPid, -2, -1, 0, 0, 1, 1, 2, 3, 4, 5, 7, 8, 9, 10, 12, 13, 15, 19, 20, 21, 30, 40, 50, 51, 60, 61, 99, 300, 400, 2000, 2001, 3000, lastNo, lastNo + 1, lastPid, lastPid + 1, 1<<32 + 1, math.MaxInt}
}

// plainStock: what hangs on no code: numbers, texts, bytes, pools, links, leases and deeds, right and not right.
func plainStock() stock {
	s := stock{}
	for _, n := range someInts() {
		s.add(n)
		s.add(impl.PutNum(n))
	}
	for _, text := range slices.Concat(promiseTexts(), words("", "main", "f", "print", "car", "a", "(", ")", "'", "#t", "#f", "5", "-1000000000", "1000000001", "()", "(a b", "\x00", "\xff", "A", "if", "\xe2\x82", "(if)", "1 2", strings.Repeat("(", 200), strings.Repeat("x", 400), strings.Repeat("1 ", 300), strings.Repeat("\x00", 1<<16))) {
		s.add(text)
		s.add(impl.PutText(text))
	}
	for _, line := range words("step 1 0", "step 1 50", "step 1 51", "show 0 1", "give 0", "copy 0", "lose 0", "lose 00", "judge", "round", "out 1", "where 1", ";", " ", "judge\nround\nout 1", strings.Repeat("round\n", 9), strings.Repeat("\n", 61)) {
		s.add(line)
	}
	for _, text := range mailTexts() {
		s.add(text)
	}
	addAll(s, noValues())
	s.add([]byte(nil), []byte{0x80}, []byte{0x80, 0}, bytes.Repeat([]byte{0xff}, 30), bytes.Repeat([]byte{0}, 30))
	s.add(mixedPool(), doubled(40), chain(50), manyNodes(1), manyNodes(impl.MaxNodes-1), manyNodes(impl.MaxNodes), impl.Pool{})
	addAll(s, brokenPools())
	s.add(nilNode(), boolNode(1), boolNode(2), intNode(7), intNode(lastPid+1), symNode("x"), symNode("X"), pairNode(0, 0), pairNode(1, 99), funNode(16, 4), kontNode(0), primNode(3), pidNode(9), impl.Node{}, impl.Node{Kind: 99, N: 1, S: "x", A: 1, B: 1})
	for _, list := range someLists() {
		s.add(list)
	}
	s.add([]int(nil), []int{0}, []int{0, 1}, []int{2, 1}, []int{-1}, []int{math.MaxInt, math.MinInt}, make([]int, impl.MaxNodes+1))
	addAll(s, allLinks())
	s.add(pieceOf(0), pieceOf(3), pieceOf(4), impl.Piece{No: -1}, impl.Piece{No: math.MaxInt, Text: "x"}, impl.Piece{No: 1, Text: aWord})
	addAll(s, allLeases())
	s.add(impl.Grip{}, impl.Grip{Id: 1, Until: 10}, impl.Grip{Id: lastPid, Until: math.MaxInt}, impl.Grip{Id: -1, Until: math.MinInt})
	for _, d := range slices.Concat(goodDeeds(), badDeeds()) {
		s.add(d)
	}
	s.add(goodDeeds(), badDeeds(), []impl.Deed(nil), []impl.Deed{stepOf(1, 50), showOf(0, 1), giveOf(0)}, make([]impl.Deed, mostDeeds+1))
	return s
}

// stocks: each has things that go together, of one code.
func stocks(t *testing.T) []stock {
	var list []stock
	small := plainStock()
	c, machines := machinesToAsk()
	small.add(c, impl.Code{}, impl.Machine{}, impl.Proc{}, impl.World{})
	addAll(small, brokenCodes())
	for _, m := range machines {
		small.add(m)
		packed, _ := impl.MachinePack(c, m)
		small.add(packed)
	}
	addAll(small, rightProcs())
	addAll(small, brokenProcs())
	for places := 1; places <= mostPlaces; places++ {
		full := fullWorld(places)
		// As full as it was, but with less to hold against each other.
		setLink(&full, places*places-1, aLink(530, 500, 510, 511, 513))
		small.add(bareWorld(places), busyWorld(places), fairWorld(places), full)
	}
	for _, places := range []int{math.MinInt, -1, 0, 0, mostPlaces + 1, math.MaxInt} {
		small.add(turnedWorld(fairWorld(2), func(w *impl.World) { w.Places, w.Homes = places, nil }))
	}
	for pid := range 5 {
		small.add(procBytes(aProc(pid)), procMove(pid))
	}
	list = append(list, small)
	r := &aRandom{x: 1801}
	for i, text := range promiseTexts() {
		s := stock{}
		w := programWorld(t, 1+i%mostPlaces, text)
		s.add(w.Code, w.Code.Pool, "main", text)
		for range 6 {
			s.add(w)
			for _, h := range w.Homes {
				packed, _ := impl.ProcPack(w.Code, h.P)
				machine, _ := impl.MachinePack(w.Code, h.P.M)
				s.add(h.P, h.P.M, h.P.M.Pool, packed, machine, impl.MailMove(packed))
			}
			for _, l := range w.Links {
				s.add(l)
			}
			d := r.someDeed(w, i)
			s.add(d)
			w, _ = impl.WorldRun(w, r.someRow(w, 30))
		}
		list = append(list, s)
	}
	for range 10 {
		s := stock{}
		for range 4 {
			w := r.someBusy()
			s.add(w, w.Code)
			r.breakWorld(&w)
			s.add(w, w.Code)
		}
		list = append(list, s)
	}
	return list
}

// junkOf: what stands in spare room, and nowhere else.
func junkOf(kind reflect.Type) reflect.Value {
	v := reflect.New(kind).Elem()
	switch kind.Kind() {
	case reflect.Int:
		v.SetInt(-777)
	case reflect.Uint8:
		v.SetUint(0xa7)
	case reflect.Bool:
		v.SetBool(true)
	case reflect.String:
		v.SetString("junk")
	case reflect.Slice:
		v.Set(reflect.Append(v, junkOf(kind.Elem())))
	case reflect.Struct:
		for i := range v.NumField() {
			v.Field(i).Set(junkOf(v.Field(i).Type()))
		}
	}
	return v
}

// roomyValue: the value in memory of its own, with junk in the spare room behind each of its lists.
func roomyValue(v reflect.Value) reflect.Value {
	next := reflect.New(v.Type()).Elem()
	switch v.Kind() {
	case reflect.Slice:
		whole := reflect.MakeSlice(v.Type(), v.Len()+2, v.Len()+2)
		reflect.Copy(whole, v)
		for i := 0; i < v.Len() && hasLists(v.Type().Elem()); i++ {
			whole.Index(i).Set(roomyValue(v.Index(i)))
		}
		for i := v.Len(); i < whole.Len(); i++ {
			whole.Index(i).Set(junkOf(v.Type().Elem()))
		}
		next.Set(whole.Slice(0, v.Len()))
	case reflect.Struct:
		for i := range v.NumField() {
			next.Field(i).Set(roomyValue(v.Field(i)))
		}
	default:
		next.Set(v)
	}
	return next
}

// spoilValue fills all lists of a value with junk, and the spare room behind them.
func spoilValue(v reflect.Value) {
	switch v.Kind() {
	case reflect.Slice:
		whole := v.Slice(0, v.Cap())
		junk := junkOf(v.Type().Elem())
		for i := range whole.Len() {
			if hasLists(v.Type().Elem()) {
				spoilValue(whole.Index(i))
			}
			whole.Index(i).Set(junk)
		}
	case reflect.Struct:
		for i := range v.NumField() {
			spoilValue(v.Field(i))
		}
	}
}

// imprint: all of a value in bytes; with what is in spare room, or without it.
func imprint(b []byte, v reflect.Value, room bool) []byte {
	switch v.Kind() {
	case reflect.Slice:
		b = binary.AppendVarint(b, int64(v.Len()))
		if room {
			v = v.Slice(0, v.Cap())
		}
		for i := range v.Len() {
			b = imprint(b, v.Index(i), room)
		}
	case reflect.Struct:
		for i := range v.NumField() {
			b = imprint(b, v.Field(i), room)
		}
	case reflect.String:
		b = append(binary.AppendVarint(b, int64(v.Len())), v.String()...)
	case reflect.Int:
		b = binary.AppendVarint(b, v.Int())
	case reflect.Uint8:
		b = append(b, byte(v.Uint()))
	case reflect.Bool:
		b = append(b, map[bool]byte{true: 1}[v.Bool()])
	default:
		panic("there is no imprint of " + v.Kind().String())
	}
	return b
}

func imprints(list []reflect.Value, room bool) []byte {
	var b []byte
	for _, v := range list {
		b = imprint(b, v, room)
	}
	return b
}

// turn turns one thing in a value, wherever it lies.
func (r *aRandom) turn(v reflect.Value) {
	switch v.Kind() {
	case reflect.Struct:
		if v.NumField() > 0 {
			r.turn(v.Field(r.below(v.NumField())))
		}
	case reflect.Slice:
		r.turnList(v)
	case reflect.Int:
		n := v.Int()
		v.SetInt([]int64{int64(someInts()[r.below(len(someInts()))]), n + 1, n - 1, -n, n * 2}[r.below(5)])
	case reflect.Uint8:
		v.SetUint(uint64(r.below(256)))
	case reflect.Bool:
		v.SetBool(!v.Bool())
	case reflect.String:
		s := v.String()
		at := r.below(len(s) + 1)
		v.SetString([]string{s[:at], s[at:], s + s, s[:at] + string([]byte{byte(r.below(256))}) + s[min(at+r.below(2), len(s)):], "", "x", aWord}[r.below(7)])
	}
}

func (r *aRandom) turnList(v reflect.Value) {
	count := v.Len()
	switch kind := r.below(8); {
	case count == 0 || kind == 0:
		v.Set(reflect.Append(v.Slice3(0, count, count), junkOf(v.Type().Elem())))
	case kind == 1:
		v.Set(reflect.Zero(v.Type()))
	case kind == 2:
		v.Set(v.Slice(0, r.below(count)))
	case kind == 3:
		// Each has a list of its own, still.
		v.Set(roomyValue(reflect.AppendSlice(v.Slice3(0, count, count), v)))
	default:
		r.turn(v.Index(r.below(count)))
	}
}

// someArgs: arguments for a function, mostly such as go together, some of them turned.
func (r *aRandom) someArgs(f reflect.Type, list []stock) []reflect.Value {
	var args []reflect.Value
	own := list[r.below(len(list))]
	for i := range f.NumIn() {
		s := own
		if len(s[f.In(i)]) == 0 || r.below(8) == 0 {
			s = list[0]
		}
		among := s[f.In(i)]
		v := roomyValue(among[r.below(len(among))])
		for r.below(3) == 0 {
			r.turn(v)
		}
		args = append(args, roomyValue(v))
	}
	return args
}

// asked: what the function answers; a panic is told.
func asked(f reflect.Value, args []reflect.Value) (answer []reflect.Value, wrong any) {
	defer func() { wrong = recover() }()
	return f.Call(args), nil
}

func spansOfAll(name string, list []reflect.Value) []span {
	var all []span
	for i, v := range list {
		all = append(all, spansOf(fmt.Sprint(name, " ", i), v)...)
	}
	return all
}

// askAnyArgs asks one function with these arguments; it tells what it answers.
func askAnyArgs(t *testing.T, name string, f reflect.Value, args []reflect.Value) string {
	t.Helper()
	fail := func(what string) {
		t.Helper()
		told := ""
		for _, v := range args {
			told += fmt.Sprintf(" %.300q", fmt.Sprintf("%+v", v))
		}
		t.Errorf("%s %s, of%s", name, what, told)
	}
	before := imprints(args, true)
	first, wrong := asked(f, args)
	if wrong != nil {
		fail(fmt.Sprint("panics, ", wrong))
		return "panic"
	}
	other, _ := asked(f, args)
	want := imprints(first, false)
	if !bytes.Equal(imprints(args, true), before) {
		fail("writes into an argument, or into the room behind it")
	}
	if !bytes.Equal(imprints(other, false), want) {
		fail("answers otherwise when it is asked again")
	}
	if two := shared(slices.Concat(spansOfAll("argument", args), spansOfAll("answer", first), spansOfAll("other answer", other))); two != nil {
		fail(fmt.Sprintf("answers lists that share memory, %q", two))
	}
	for _, v := range first {
		spoilValue(v)
	}
	if third, _ := asked(f, args); !bytes.Equal(imprints(third, false), want) || !bytes.Equal(imprints(other, false), want) || !bytes.Equal(imprints(args, true), before) {
		fail("keeps something from one call to another")
	}
	// What is done to the arguments later does not turn what was answered.
	for _, v := range args {
		spoilValue(v)
	}
	if !bytes.Equal(imprints(other, false), want) {
		fail("answers what its arguments have")
	}
	runtime.KeepAlive(first)
	return string(want)
}

// Promise 18.
func TestEveryFunctionAnswersAtAnyArguments(t *testing.T) {
	t.Parallel()
	list := stocks(t)
	for i, name := range functionNames() {
		f := reflect.ValueOf(allFunctions()[name])
		r := &aRandom{x: uint64(1810 + i)}
		answers := map[string]int{}
		for range 600 {
			answers[askAnyArgs(t, name, f, r.someArgs(f.Type(), list))]++
			if t.Failed() {
				return
			}
		}
		if len(answers) < 2 {
			t.Errorf("%s always answers the same", name)
		}
	}
}

// Of no arguments but zeros, and of each number and text alone.
func TestEveryFunctionAnswersAtItsEdges(t *testing.T) {
	for _, name := range functionNames() {
		f := reflect.ValueOf(allFunctions()[name])
		zeros := func() []reflect.Value {
			var args []reflect.Value
			for i := range f.Type().NumIn() {
				args = append(args, reflect.New(f.Type().In(i)).Elem())
			}
			return args
		}
		askAnyArgs(t, name, f, zeros())
		for i := range f.Type().NumIn() {
			for _, n := range someInts() {
				if args := zeros(); args[i].Kind() == reflect.Int {
					args[i].SetInt(int64(n))
					askAnyArgs(t, name, f, args)
				}
			}
			for _, s := range words("\x00", "\xff", "(", "main", strings.Repeat("(", 1<<16), strings.Repeat("\x80", 1<<16), strings.Repeat("\n", 1<<16)) {
				if args := zeros(); args[i].Kind() == reflect.String {
					args[i].SetString(s)
					askAnyArgs(t, name, f, args)
				}
			}
			if args := zeros(); args[i].Kind() == reflect.Slice || args[i].Kind() == reflect.Struct {
				args[i].Set(junkOf(args[i].Type()))
				askAnyArgs(t, name, f, args)
			}
		}
	}
}

// Many may ask at once, of the same arguments and of others; and none leaves something behind that goes on.
func TestEveryFunctionIsAskedByManyAtOnce(t *testing.T) {
	list := stocks(t)
	for i, name := range functionNames() {
		f := reflect.ValueOf(allFunctions()[name])
		r := &aRandom{x: uint64(1820 + i)}
		synctest.Test(t, func(t *testing.T) {
			for range 12 {
				args := r.someArgs(f.Type(), list)
				before := imprints(args, true)
				want, _ := asked(f, args)
				var many sync.WaitGroup
				for range 4 {
					many.Go(func() {
						if got, wrong := asked(f, args); wrong != nil || !bytes.Equal(imprints(got, false), imprints(want, false)) {
							t.Errorf("%s answers otherwise when many ask: %v", name, wrong)
						}
					})
				}
				many.Wait()
				if !bytes.Equal(imprints(args, true), before) {
					t.Errorf("%s writes into an argument when many ask", name)
				}
			}
		})
	}
}
