package tests

import (
	"fmt"
	"go/ast"
	"go/parser"
	"go/token"
	"math"
	"os"
	"path/filepath"
	"reflect"
	"slices"
	"strings"
	"testing"

	"loop.example/g00342/impl"
)

// face is an exported function with lists of arguments at which it has something to do.
type face struct {
	name   string
	ask    any
	rights [][]any
}

// facesOfNumbers are those of chapters 1 to 5, and of states and Bench: no argument of theirs is made of parts.
func facesOfNumbers() []face {
	c := threeCores
	one, other, m := []int64{1, 2}, []int64{3, 9999}, unlikeWords(5)
	return []face{
		{"In", impl.In, [][]any{{10, 3}}},
		{"With", impl.With, [][]any{{10, 2}}},
		{"Without", impl.Without, [][]any{{10, 3}}},
		{"Count", impl.Count, [][]any{{10}}},
		{"Members", impl.Members, [][]any{{10}, {255}}},
		{"ConfigCode", impl.ConfigCode, [][]any{{c}}},
		{"LineOf", impl.LineOf, [][]any{{c, 5}}},
		{"WordOf", impl.WordOf, [][]any{{c, 5}}},
		{"SetOf", impl.SetOf, [][]any{{c, 3}}},
		{"AddrOf", impl.AddrOf, [][]any{{c, 3, 1}}},
		{"LineOk", impl.LineOk, [][]any{{one}}},
		{"WordAt", impl.WordAt, [][]any{{one, 1}}},
		{"Put", impl.Put, [][]any{{one, 1, 9999}, {one, 2, 0}}},
		{"Masked", impl.Masked, [][]any{{one, other, 2}, {one, one, 3}}},
		{"MemoryOk", impl.MemoryOk, [][]any{{m}}},
		{"NewMemory", impl.NewMemory, [][]any{{5}, {16}}},
		{"ReadLine", impl.ReadLine, [][]any{{m, 4}}},
		{"WriteLine", impl.WriteLine, [][]any{{m, 4, one, 1}, {m, 5, one, 1}}},
		{"TreeOk", impl.TreeOk, [][]any{{5, 4}}},
		{"Touched", impl.Touched, [][]any{{5, 4, 2}}},
		{"Victim", impl.Victim, [][]any{{5, 4}}},
		{"VictimBut", impl.VictimBut, [][]any{{5, 4, 3}}},
		{"Next", impl.Next, [][]any{{2, 3}}},
		{"Together", impl.Together, [][]any{{[]int64{1, 0, 1, 1}}, {[]int64{1, 3}}}},
		{"Asks", impl.Asks, [][]any{{1, true}}},
		{"Granted", impl.Granted, [][]any{{false, 1}}},
		{"Bench", impl.Bench, [][]any{{"add 0 0 5\nload 1 0\nread 0\npick 1\nend 5\nline 0\nok"}}},
	}
}

func facesOfParts() []face {
	shelf := withWay(halfStore(2, 2), 0, 0, wayOf(4, 3, 5, 6))
	net := []impl.Msg{stamped(0, 1, 4, 7), stamped(0, 1, 4, 8), stamped(2, 4, 1, 9)}
	shared, put := busy(sharers(0, 1, 3), 2, 2, 2), putting(owner(1), 1, 2, 71, 72)
	ops, list := opsIn(5, 4), descsIn(5, 4)
	h := mixedFabric().House
	d := mixedFabric().Dma
	cores := mixedFabric().Cores
	events := mixedPlay()
	return []face{
		{"CacheOk", impl.CacheOk, [][]any{{shelf}, {fullStore(1, 1)}}},
		{"NewCache", impl.NewCache, [][]any{{2, 4}}},
		{"Find", impl.Find, [][]any{{shelf, 4}}},
		{"Filled", impl.Filled, [][]any{{shelf, wayOf(4, 2, 7, 8)}, {emptyStore(4, 1), wayOf(3, 1, 7, 8)}, {fullStore(1, 1), wayOf(9, 1, 7, 8)}}},
		{"Dropped", impl.Dropped, [][]any{{shelf, 4}, {shelf, 15}}},
		{"Leaves", impl.Leaves, [][]any{{fullStore(1, 4), 15}}},
		{"NetOk", impl.NetOk, [][]any{{net}, {mixedNet(60)}, {mixedNet(61)}}},
		{"Sent", impl.Sent, [][]any{{net, net[0]}, {mixedNet(60), net[0]}}},
		{"First", impl.First, [][]any{{net, 2}}},
		{"Taken", impl.Taken, [][]any{{net, 2}, {net, 1}}},
		{"OpOk", impl.OpOk, [][]any{{ops[3]}}},
		{"Writes", impl.Writes, [][]any{{ops[3]}}},
		{"Done", impl.Done, [][]any{{ops[1], 5}, {ops[2], 9999}, {ops[3], 5}}},
		{"EntryOk", impl.EntryOk, [][]any{{shared}, {put}, {impl.Entry{Owner: 1, Sharers: 4}}}},
		{"NewEntry", impl.NewEntry, [][]any{{}}},
		{"Holders", impl.Holders, [][]any{{shared}, {put}}},
		{"Asked", impl.Asked, [][]any{{shared, 2, 1}, {put, 3, 5}}},
		{"Forgot", impl.Forgot, [][]any{{shared, 1}, {put, 1}}},
		{"ProgramCode", impl.ProgramCode, [][]any{{threeCores, ops}}},
		{"DescCode", impl.DescCode, [][]any{{threeCores, list}}},
		{"Work", impl.Work, [][]any{{[][]impl.Op{ops, nil, ops}, list}}},
		{"Touches", impl.Touches, [][]any{{ops}, {manyOps(100)}}},
		{"CoreOk", impl.CoreOk, [][]any{{cores[0]}, {cores[1]}, {cores[2]}}},
		{"NewCore", impl.NewCore, [][]any{{2, 1, ops}}},
		{"Begun", impl.Begun, [][]any{{cores[0], 0}, {cores[1], 1}, {cores[2], 2}, {idle(fullStore(1, 1), store(5)), 3}}},
		{"Got", impl.Got, [][]any{{cores[0], 0, grantTo(0, 1, 2, 8, 9)}, {cores[1], 1, ackTo(1, 2)}, {cores[1], 1, fetchTo(1, 3)}, {cores[1], 1, invalidTo(1, 2)}, {cores[2], 2, invalidTo(2, 1)}}},
		{"HouseOk", impl.HouseOk, [][]any{{h}}},
		{"NewHouse", impl.NewHouse, [][]any{{5}}},
		{"Heard", impl.Heard, [][]any{{h, impl.Msg{From: 1, To: 4, Kind: impl.MsRead, Line: 1}}, {h, impl.Msg{From: 5, To: 4, Kind: impl.MsSet, Line: 4, Data: []int64{8, 9}, Flag: 3}}, {h, dataBy(1, 3, 8, 9)}, {h, putBy(2, 1, 8, 9)}, {h, impl.Msg{From: 2, To: 4, Kind: impl.MsWrite, Line: 0}}}},
		{"Holds", impl.Holds, [][]any{{h, 2}}},
		{"DmaOk", impl.DmaOk, [][]any{{d}, {impl.Dma{At: 1}}}},
		{"NewDma", impl.NewDma, [][]any{{list}}},
		{"Asking", impl.Asking, [][]any{{d}, {impl.Dma{Program: list}}, {impl.Dma{Program: list[1:]}}}},
		{"Answered", impl.Answered, [][]any{{d, toldTo(3)}, {impl.Dma{Program: list, Waits: true}, toldTo(list[0].Line, 8, 9)}}},
		{"Played", impl.Played, [][]any{{16, events}, {5, events}}},
		{"ByAgent", impl.ByAgent, [][]any{{events, 1}, {events, 5}}},
	}
}

func facesOfFabrics() []face {
	programs, list := [][]impl.Op{opsIn(5, 3), nil, opsIn(5, 2)}, descsIn(5, 3)
	mixed := mixedFabric()
	fresh := newBy(threeCores, programs, list)
	midway := impl.Ran(fresh, []int64{3, 1, 4, 1, 5, 9, 2, 6, 5, 3, 5, 8, 9, 7, 9})
	end, _ := impl.Ended(fresh, 1)
	var alone [][]any
	// each is the fabrics alone, with is them with one more argument.
	for _, f := range []impl.Fabric{mixed, fresh, midway, end} {
		alone = append(alone, []any{f})
	}
	with := func(more ...any) [][]any {
		var rights [][]any
		for _, f := range alone {
			for _, one := range more {
				rights = append(rights, []any{f[0], one})
			}
		}
		return rights
	}
	return []face{
		{"FabricOk", impl.FabricOk, alone},
		{"NewFabric", impl.NewFabric, [][]any{{threeCores, programs, list}}},
		{"Enabled", impl.Enabled, alone},
		{"Acted", impl.Acted, with(0, 2, 3, 4, 6, 9)},
		{"Picked", impl.Picked, with(0, 4)},
		{"Ran", impl.Ran, with([]int64{1, 2, 3, -1, 5})},
		{"Finished", impl.Finished, alone},
		{"Bound", impl.Bound, alone},
		{"Ended", impl.Ended, with(7)},
		{"StatesOf", impl.StatesOf, with(2)},
		{"Coherent", impl.Coherent, alone},
		{"TruthOf", impl.TruthOf, with(3)},
		{"Fresh", impl.Fresh, alone},
		{"InOrder", impl.InOrder, alone},
		{"Flushed", impl.Flushed, alone},
		{"Exact", impl.Exact, alone},
		{"Free", impl.Free, alone},
	}
}

// The faces are all that the program exports: none is left out of the tests below.
func TestAllFacesAreThere(t *testing.T) {
	files, err := filepath.Glob("../impl/*.go")
	if err != nil || len(files) != 20 {
		t.Fatalf("%v, %v", files, err)
	}
	var names []string
	for _, file := range files {
		text, err := os.ReadFile(file)
		if err != nil {
			t.Fatal(err)
		}
		tree, err := parser.ParseFile(token.NewFileSet(), file, text, parser.SkipObjectResolution)
		if err != nil {
			t.Fatal(err)
		}
		for _, d := range tree.Decls {
			if f, is := d.(*ast.FuncDecl); is && f.Recv == nil && f.Name.IsExported() {
				names = append(names, f.Name.Name)
			}
		}
	}
	var faces []string
	for _, f := range slices.Concat(facesOfNumbers(), facesOfParts(), facesOfFabrics()) {
		faces = append(faces, f.name)
	}
	slices.Sort(names)
	slices.Sort(faces)
	if !slices.Equal(names, faces) {
		t.Errorf("the program exports %v, and asked are %v", names, faces)
	}
}

// copier makes values that are alike, down to each list; behind each list there is this much spare room.
type copier struct {
	spare int
	// Lists that are alike become one list, where this is no nil.
	known map[string]reflect.Value
	// An empty list and nil are the same value: nil becomes an empty list, so that both are told as one.
	plain bool
}

func plainOf(v reflect.Value) reflect.Value { return copier{plain: true}.copied(v) }

func (c copier) list(v reflect.Value) reflect.Value {
	key := ""
	if c.known != nil {
		key = fmt.Sprintf("%s %v", v.Type(), v)
		if one, is := c.known[key]; is {
			return one
		}
	}
	wide := reflect.MakeSlice(v.Type(), v.Len()+c.spare, v.Len()+c.spare)
	for i := range v.Len() {
		wide.Index(i).Set(c.copied(v.Index(i)))
	}
	for i := range c.spare {
		wide.Index(v.Len() + i).Set(spareOf(v.Type().Elem()))
	}
	fresh := wide.Slice(0, v.Len())
	if c.known != nil {
		c.known[key] = fresh
	}
	return fresh
}

func (c copier) copied(v reflect.Value) reflect.Value {
	switch v.Kind() {
	case reflect.Struct:
		fresh := reflect.New(v.Type()).Elem()
		for i := range v.NumField() {
			fresh.Field(i).Set(c.copied(v.Field(i)))
		}
		return fresh
	case reflect.Slice:
		if v.IsNil() && !c.plain {
			return v
		}
		return c.list(v)
	}
	return v
}

func (c copier) all(args []reflect.Value) []reflect.Value {
	var fresh []reflect.Value
	for _, v := range args {
		fresh = append(fresh, c.copied(v))
	}
	return fresh
}

// spareOf is what stands in spare room: nothing of it is zero.
func spareOf(of reflect.Type) reflect.Value {
	v := reflect.New(of).Elem()
	switch of.Kind() {
	case reflect.Int64:
		v.SetInt(-77)
	case reflect.Bool:
		v.SetBool(true)
	case reflect.Struct:
		for i := range v.NumField() {
			v.Field(i).Set(spareOf(of.Field(i).Type))
		}
	case reflect.Slice:
		v.Set(reflect.Append(v, spareOf(of.Elem())))
	}
	return v
}

// wholeOf is a copy in which the spare room of each list is part of it.
func wholeOf(v reflect.Value) reflect.Value {
	switch v.Kind() {
	case reflect.Struct:
		whole := reflect.New(v.Type()).Elem()
		for i := range v.NumField() {
			whole.Field(i).Set(wholeOf(v.Field(i)))
		}
		return whole
	case reflect.Slice:
		if v.IsNil() {
			return v
		}
		whole := reflect.MakeSlice(v.Type(), v.Cap(), v.Cap())
		for i := range v.Cap() {
			whole.Index(i).Set(wholeOf(v.Slice(0, v.Cap()).Index(i)))
		}
		return whole
	}
	return v
}

// spoilValue writes over all that a value has in lists, and over the spare room behind them.
func spoilValue(v reflect.Value) {
	switch v.Kind() {
	case reflect.Struct:
		for i := range v.NumField() {
			spoilValue(v.Field(i))
		}
	case reflect.Slice:
		all := v.Slice(0, v.Cap())
		for i := range all.Len() {
			spoilValue(all.Index(i))
			all.Index(i).Set(spareOf(v.Type().Elem()))
		}
	}
}

func valuesOf(list []reflect.Value, turn func(reflect.Value) reflect.Value) []any {
	var all []any
	for _, v := range list {
		all = append(all, turn(v).Interface())
	}
	return all
}

func roomsOfAll(list []reflect.Value) []memoryRoom {
	var rooms []memoryRoom
	for _, v := range list {
		rooms = append(rooms, roomsOf(v)...)
	}
	return rooms
}

// anyApart tells whether no list of the answer shares memory with one ahead of it there, or with one of what was given.
func anyApart(answer []memoryRoom, given []memoryRoom) bool {
	for i, a := range answer {
		for _, list := range [][]memoryRoom{answer[:i], given} {
			for _, b := range list {
				if a.from < b.end && b.from < a.end {
					return false
				}
			}
		}
	}
	return true
}

// asked calls the function; a panic is told by what it panicked with.
func (f face) asked(args []reflect.Value) (answer []reflect.Value, panicked any) {
	defer func() { panicked = recover() }()
	return reflect.ValueOf(f.ask).Call(args), nil
}

func short(args []reflect.Value) string {
	told := fmt.Sprint(valuesOf(args, func(v reflect.Value) reflect.Value { return v }))
	return told[:min(len(told), 400)]
}

// checkFace is promise 21 of one call: there is an answer, of new memory, and what was given stays; and it is the same one again behind all of that was written over, and where lists that are alike are one.
func (f face) check(t *testing.T, args []reflect.Value) {
	t.Helper()
	given := copier{spare: 2}.all(args)
	was, rooms := valuesOf(given, wholeOf), roomsOfAll(given)
	answer, panicked := f.asked(given)
	if panicked != nil {
		t.Errorf("%s of %s panics: %v", f.name, short(args), panicked)
		return
	}
	if !reflect.DeepEqual(valuesOf(given, wholeOf), was) || !slices.Equal(roomsOfAll(given), rooms) {
		t.Errorf("%s of %s wrote into an argument", f.name, short(args))
	}
	if !anyApart(roomsOfAll(answer), rooms) {
		t.Errorf("%s of %s answers with memory of an argument, or two lists with one memory", f.name, short(args))
	}
	want := valuesOf(answer, plainOf)
	for _, v := range slices.Concat(given, answer) {
		spoilValue(v)
	}
	for _, c := range []copier{{}, {known: map[string]reflect.Value{}}} {
		given = c.all(args)
		was = valuesOf(given, wholeOf)
		answer, panicked = f.asked(given)
		if panicked != nil || !reflect.DeepEqual(valuesOf(answer, plainOf), want) {
			t.Errorf("%s of %s is not the same again: %v, want %v", f.name, short(args), answer, want)
		}
		if !anyApart(roomsOfAll(answer), roomsOfAll(given)) {
			t.Errorf("%s of %s, where lists that are alike are one, answers with that memory", f.name, short(args))
		}
		if !reflect.DeepEqual(valuesOf(given, wholeOf), was) {
			t.Errorf("%s of %s, where lists that are alike are one, wrote into it", f.name, short(args))
		}
	}
}

// numbersOfAll are small ones, those about each limit of the document, and very great ones; cut to fewer bits some of these would be small.
var numbersOfAll = []int64{
	math.MinInt64, math.MinInt64 + 1, math.MinInt64 + 2, math.MinInt64 / 2, math.MinInt32, -1 << 32, -65536, -10000, -256, -61, -31, -16, -8, -5, -4, -3, -2, -1,
	0, 1, 2, 3, 4, 5, 6, 7, 8, 9, 13, 15, 16, 17, 29, 30, 31, 32, 59, 60, 61, 63, 64, 65, 199, 200, 201, 255, 256, 257, 600, 601, 3000, 3001, 9999, 10000, 65535, 65536,
	math.MaxInt32, 1 << 32, 1<<32 + 1, 1<<32 + 2, math.MaxInt64 / 2, math.MaxInt64 - 1, math.MaxInt64,
}

// nearNumbers are put in the place of each number of what is made of parts.
func nearNumbers(n int64) []int64 {
	return []int64{math.MinInt64, -2, -1, 0, 1, 3, 5, n - 1, n + 1, 16, 10000, math.MaxInt64}
}

var wrongTexts = []string{"", "\n", "x", "\x00\xff\n\xfe", strings.Repeat("load 0 0\n", 40) + strings.Repeat("end 7\n", 9), strings.Repeat("ok\n", 200), strings.Repeat("ok\n", 201), strings.Repeat("x", 20000), strings.Repeat("x", 20001), strings.Repeat("\n", 1000000), "pick 9999999999999999999999\nend -9223372036854775808\nline 9223372036854775807", strings.Repeat(" ", 20000), "\xf0\x28\x8c\x28 1 2\n\u0661"}

// unlikeLists are lists that are too short, too long, far too long, none at all, and such of which the first or the last is another one.
func unlikeLists(v reflect.Value) []reflect.Value {
	one := reflect.Zero(v.Type().Elem())
	none := reflect.MakeSlice(v.Type(), 0, 0)
	list := []reflect.Value{reflect.Zero(v.Type()), none, reflect.Append(copier{}.list(v), one)}
	for _, length := range []int{31, 61, 201} {
		long := reflect.MakeSlice(v.Type(), length, length)
		for i := range length {
			if v.Len() > 0 {
				long.Index(i).Set(v.Index(i % v.Len()))
			}
		}
		list = append(list, long)
	}
	if v.Len() == 0 {
		return list
	}
	last := v.Len() - 1
	list = append(list, v.Slice(0, last), v.Slice(1, last+1), reflect.Append(copier{}.list(v), v.Index(0)))
	for _, i := range slices.Compact([]int{0, last}) {
		for _, other := range unlike(v.Index(i)) {
			fresh := copier{}.list(v)
			fresh.Index(i).Set(other)
			list = append(list, fresh)
		}
	}
	return list
}

// unlike are values that are like this one but for one thing.
func unlike(v reflect.Value) []reflect.Value {
	var list []reflect.Value
	switch v.Kind() {
	case reflect.Int64:
		for _, n := range nearNumbers(v.Int()) {
			list = append(list, reflect.ValueOf(n))
		}
	case reflect.Bool:
		list = append(list, reflect.ValueOf(!v.Bool()))
	case reflect.String:
		for _, text := range wrongTexts {
			list = append(list, reflect.ValueOf(text))
		}
	case reflect.Slice:
		list = unlikeLists(v)
	case reflect.Struct:
		list = append(list, reflect.Zero(v.Type()))
		for i := range v.NumField() {
			for _, other := range unlike(v.Field(i)) {
				fresh := reflect.New(v.Type()).Elem()
				fresh.Set(v)
				fresh.Field(i).Set(other)
				list = append(list, fresh)
			}
		}
	}
	return list
}

// argsOf makes values of just the types that the function takes: numbers that are written without one are int64.
func (f face) argsOf(right []any) []reflect.Value {
	var args []reflect.Value
	for i, one := range right {
		args = append(args, reflect.ValueOf(one).Convert(reflect.TypeOf(f.ask).In(i)))
	}
	return args
}

// pools are, for each argument, all that is tried in its place: what is right for it, others than that, its zero value, and far numbers.
func (f face) pools() [][]reflect.Value {
	pools := make([][]reflect.Value, reflect.TypeOf(f.ask).NumIn())
	for i := range pools {
		of := reflect.TypeOf(f.ask).In(i)
		pools[i] = append(pools[i], reflect.Zero(of))
		if of.Kind() == reflect.Int64 {
			for _, n := range numbersOfAll {
				pools[i] = append(pools[i], reflect.ValueOf(n))
			}
		}
		for _, right := range f.rights {
			v := f.argsOf(right)[i]
			pools[i] = append(pools[i], v)
			pools[i] = append(pools[i], unlike(v)...)
		}
	}
	return pools
}

// checkFaces asks each function at what is right for it, with each one argument wrong for each reason, and with all of them picked by dice.
func checkFaces(t *testing.T, faces []face, every int, rolls int) {
	d := &dice{23}
	for _, f := range faces {
		pools := f.pools()
		count := 0
		for _, right := range f.rights {
			args := f.argsOf(right)
			f.check(t, args)
			for i, pool := range pools {
				for _, other := range pool {
					// Of what is made of very many parts only some are asked here; which ones is another with each function.
					if count++; len(pool) > 3000 && d.roll(int64(every)) != 0 {
						continue
					}
					wrong := slices.Clone(args)
					wrong[i] = other
					f.check(t, wrong)
				}
			}
		}
		for range rolls {
			var args []reflect.Value
			for _, pool := range pools {
				args = append(args, pool[d.roll(int64(len(pool)))])
			}
			f.check(t, args)
		}
		stopIfFailed(t)
		if count == 0 && reflect.TypeOf(f.ask).NumIn() > 0 {
			t.Errorf("%s is asked nothing", f.name)
		}
	}
}

func TestAllFunctionsOfNumbersAnswer(t *testing.T) {
	t.Parallel()
	checkFaces(t, facesOfNumbers(), 1, 1500)
}

func TestAllFunctionsOfPartsAnswer(t *testing.T) {
	t.Parallel()
	checkFaces(t, facesOfParts(), 1, 500)
}

func TestAllFunctionsOfFabricsAnswer(t *testing.T) {
	t.Parallel()
	checkFaces(t, facesOfFabrics(), 80, 200)
}

// What is right has an answer that is not just that of what is wrong: else the calls above would tell of nothing.
func TestAllRightArgumentsAreRight(t *testing.T) {
	for _, f := range slices.Concat(facesOfNumbers(), facesOfParts(), facesOfFabrics()) {
		of := reflect.TypeOf(f.ask)
		var zeros []reflect.Value
		for i := range of.NumIn() {
			zeros = append(zeros, reflect.Zero(of.In(i)))
		}
		none := valuesOf(reflect.ValueOf(f.ask).Call(zeros), plainOf)
		another := of.NumIn() == 0
		for _, right := range f.rights {
			answer := valuesOf(reflect.ValueOf(f.ask).Call(f.argsOf(right)), plainOf)
			another = another || !reflect.DeepEqual(answer, none)
		}
		if !another {
			t.Errorf("%s answers the same of what is right and of zeros: %v", f.name, none)
		}
	}
}

// Each function of numbers alone, at all lists of far numbers.
func TestAllFunctionsOfFarNumbers(t *testing.T) {
	for _, f := range slices.Concat(facesOfNumbers(), facesOfParts()) {
		of := reflect.TypeOf(f.ask)
		if of.NumIn() > 2 || slices.ContainsFunc(slices.Collect(of.Ins()), func(in reflect.Type) bool { return in.Kind() != reflect.Int64 }) {
			continue
		}
		for _, one := range numbersOfAll {
			for _, other := range numbersOfAll {
				args := []reflect.Value{reflect.ValueOf(one), reflect.ValueOf(other)}[:of.NumIn()]
				if _, panicked := f.asked(args); panicked != nil {
					t.Errorf("%s of %s panics: %v", f.name, short(args), panicked)
				}
			}
		}
	}
}

// Lists that are far longer than any that is right.
func TestAllFunctionsOfVeryLongLists(t *testing.T) {
	const length = 100000
	for _, f := range slices.Concat(facesOfNumbers(), facesOfParts(), facesOfFabrics()) {
		args := f.argsOf(f.rights[0])
		for i, v := range args {
			if v.Kind() != reflect.Slice {
				continue
			}
			long := reflect.MakeSlice(v.Type(), length, length)
			for k := range length {
				long.Index(k).Set(v.Index(k % v.Len()))
			}
			wide := slices.Clone(args)
			wide[i] = long
			was := copier{}.copied(long).Interface()
			answer, panicked := f.asked(wide)
			if panicked != nil || !reflect.DeepEqual(long.Interface(), was) {
				t.Errorf("%s of a very long list: it panics by %v, or writes into it", f.name, panicked)
			}
			given := roomsOf(long)[:1]
			if rooms := roomsOfAll(answer); len(rooms) < 1000 && !anyApart(rooms, given) {
				t.Errorf("%s of a very long list answers with its memory", f.name)
			}
		}
	}
}
