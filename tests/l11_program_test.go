package tests

import (
	"math"
	"slices"
	"testing"

	"loop.example/g00342/impl"
)

var (
	oneLine   = impl.Config{Cores: 1, Sets: 1, Ways: 1, Lines: 1}
	fiveLines = impl.Config{Cores: 3, Sets: 2, Ways: 4, Lines: 5}
	allLines  = impl.Config{Cores: 4, Sets: 4, Ways: 2, Lines: 16}
)

var someLayouts = []impl.Config{oneLine, fiveLines, allLines}

// noLayouts are of each wrong field one, the zero one, and some of which all is wrong.
var noLayouts = []impl.Config{
	{},
	{Cores: 0, Sets: 1, Ways: 1, Lines: 16},
	{Cores: 5, Sets: 1, Ways: 1, Lines: 16},
	{Cores: 1, Sets: 3, Ways: 1, Lines: 16},
	{Cores: 1, Sets: 1, Ways: 8, Lines: 16},
	{Cores: 1, Sets: 1, Ways: 1, Lines: 0},
	{Cores: 1, Sets: 1, Ways: 1, Lines: 17},
	{Cores: -1, Sets: -1, Ways: -1, Lines: -1},
	{Cores: math.MinInt64, Sets: math.MinInt64, Ways: math.MinInt64, Lines: math.MinInt64},
	{Cores: math.MaxInt64, Sets: math.MaxInt64, Ways: math.MaxInt64, Lines: math.MaxInt64},
	{Cores: 1, Sets: 1, Ways: 1, Lines: math.MinInt64},
	{Cores: 1, Sets: 1, Ways: 1, Lines: math.MaxInt64},
}

func load(addr int64) impl.Op { return impl.Op{Kind: impl.OpLoad, Addr: addr} }

func store(addr int64) impl.Op { return impl.Op{Kind: impl.OpStore, Addr: addr, A: 9} }

func readOf(line int64) impl.Desc { return impl.Desc{Line: line} }

func writeOf(line int64, mask int64, data ...int64) impl.Desc {
	return impl.Desc{Write: true, Line: line, Mask: mask, Data: data}
}

// spareOps stand in the spare room behind a list; the first would be right.
var spareOps = []impl.Op{{Kind: 1}, {Kind: -7, Addr: -7, A: -7, B: -7}}

func roomyOps(list []impl.Op) []impl.Op {
	wide := append(slices.Clone(list), spareOps...)
	return wide[:len(list)]
}

func untouchedOps(given []impl.Op, list []impl.Op) bool {
	return slices.Equal(given[:len(list)+len(spareOps)], append(slices.Clone(list), spareOps...))
}

func sameDesc(a impl.Desc, b impl.Desc) bool {
	return a.Write == b.Write && a.Line == b.Line && a.Mask == b.Mask && slices.Equal(a.Data, b.Data)
}

var spareDescs = []impl.Desc{{Line: 0}, {Write: true, Line: -7, Mask: -7}}

func roomyDescs(list []impl.Desc) []impl.Desc {
	var wide []impl.Desc
	for _, d := range list {
		d.Data = roomy(d.Data)
		wide = append(wide, d)
	}
	wide = append(wide, spareDescs...)
	return wide[:len(list)]
}

func untouchedDescs(given []impl.Desc, list []impl.Desc) bool {
	for i, d := range list {
		if !sameDesc(given[i], d) || !untouched(given[i].Data, d.Data) {
			return false
		}
	}
	return slices.EqualFunc(given[len(list):len(list)+len(spareDescs)], spareDescs, sameDesc)
}

func checkProgram(t *testing.T, c impl.Config, list []impl.Op, want int64) {
	t.Helper()
	given := roomyOps(list)
	if got := impl.ProgramCode(c, given); got != want {
		t.Errorf("ProgramCode(%+v, %+v) = %d, want %d", c, list, got, want)
	}
	if !untouchedOps(given, list) {
		t.Errorf("ProgramCode(%+v, %+v) wrote into its argument", c, list)
	}
}

func checkDescs(t *testing.T, c impl.Config, list []impl.Desc, want int64) {
	t.Helper()
	given := roomyDescs(list)
	if got := impl.DescCode(c, given); got != want {
		t.Errorf("DescCode(%+v, %+v) = %d, want %d", c, list, got, want)
	}
	if !untouchedDescs(given, list) {
		t.Errorf("DescCode(%+v, %+v) wrote into its argument", c, list)
	}
}

func checkWork(t *testing.T, programs [][]impl.Op, list []impl.Desc, want int64) {
	t.Helper()
	var given [][]impl.Op
	for _, p := range programs {
		given = append(given, roomyOps(p))
	}
	given = append(given, []impl.Op{{}, {}, {}})[:len(programs)]
	givenDescs := roomyDescs(list)
	if got := impl.Work(given, givenDescs); got != want {
		t.Errorf("Work(%+v, %+v) = %d, want %d", programs, list, got, want)
	}
	for i, p := range programs {
		if !untouchedOps(given[i], p) {
			t.Errorf("Work(%+v, %+v) wrote into its programs", programs, list)
		}
	}
	if spare := given[:len(programs)+1][len(programs)]; !slices.Equal(spare, []impl.Op{{}, {}, {}}) || !untouchedDescs(givenDescs, list) {
		t.Errorf("Work(%+v, %+v) wrote into its arguments", programs, list)
	}
}

func checkTouches(t *testing.T, list []impl.Op, want []int64) {
	t.Helper()
	given := roomyOps(list)
	if got := impl.Touches(given); !slices.Equal(got, want) {
		t.Errorf("Touches(%+v) = %v, want %v", list, got, want)
	}
	if !untouchedOps(given, list) {
		t.Errorf("Touches(%+v) wrote into its argument", list)
	}
}

// firstCode is the chapter's row of codes over again; wrong is that of one that is not as told.
func firstCode(layout bool, count int, hasWrong bool, hasOutside bool, wrong int64) int64 {
	switch {
	case !layout:
		return 1
	case count > 30:
		return 2
	case hasWrong:
		return wrong
	case hasOutside:
		return 4
	}
	return 0
}

// What one of a list is: right, out of the Lines, or not as told (whether out of the Lines or not).
const (
	isRight   = int64(0)
	isOutside = int64(1)
	isWrong   = int64(2)
)

// graded has of one layout what there is of each of these.
type graded[T any] [3][]T

func (g graded[T]) listOf(grades []int64, turn int) []T {
	var list []T
	for i, grade := range grades {
		all := g[grade]
		list = append(list, all[(turn+5*i)%len(all)])
	}
	return list
}

// gradedOps are for layouts of fewer than 16 Lines: of all 16, an op out of them is not OpOk.
func gradedOps(lines int64) graded[impl.Op] {
	end := 2 * lines
	return graded[impl.Op]{
		isRight: {
			load(0), load(end - 1), store(end - 2), store(1),
			{Kind: impl.OpAdd, Addr: 0, A: 9999}, {Kind: impl.OpSwap, Addr: end - 1}, {Kind: impl.OpCas, Addr: end - 1, A: 9999, B: 9999},
		},
		isOutside: {
			load(end), store(end), load(end + 1), load(31), store(31), {Kind: impl.OpCas, Addr: end, A: 1, B: 2}, {Kind: impl.OpSwap, Addr: 30},
		},
		isWrong: {
			{}, {Kind: 6}, {Kind: -1, Addr: end - 1}, {Kind: impl.OpLoad, A: 1}, {Kind: impl.OpLoad, B: 1}, {Kind: impl.OpStore, Addr: 1, A: 10000}, {Kind: impl.OpAdd, A: -1}, {Kind: impl.OpSwap, A: 1, B: 1}, {Kind: impl.OpCas, B: 10000},
			load(-1), load(32), store(-2), store(math.MaxInt64), load(math.MinInt64),
			{Addr: end}, {Kind: 6, Addr: end}, {Kind: impl.OpLoad, Addr: end, A: 1}, {Kind: impl.OpStore, Addr: 31, A: 10000}, {Kind: -9, Addr: -9, A: -9, B: -9},
		},
	}
}

func gradedDescs(lines int64) graded[impl.Desc] {
	return graded[impl.Desc]{
		isRight: {
			readOf(0), readOf(lines - 1), writeOf(0, 1, 0, 0), writeOf(lines-1, 2, 9999, 9999), writeOf(0, 3, 5, 6), {Line: 0, Data: []int64{}},
		},
		isOutside: {
			readOf(-1), readOf(lines), readOf(lines + 1), readOf(math.MinInt64), readOf(math.MaxInt64), writeOf(-1, 1, 0, 0), writeOf(lines, 2, 9999, 9999), writeOf(lines, 3, 5, 6), writeOf(math.MaxInt64, 1, 1, 1),
		},
		isWrong: {
			{Mask: 1}, {Mask: -1}, {Data: []int64{1, 2}}, {Mask: 3, Data: []int64{1, 2}}, {Data: []int64{0}},
			{Write: true}, writeOf(0, 0, 1, 2), writeOf(0, 4, 1, 2), writeOf(0, -1, 1, 2), writeOf(0, 1), writeOf(0, 1, 1), writeOf(0, 1, 1, 2, 3), writeOf(0, 3, -1, 0), writeOf(0, 3, 0, 10000),
			{Line: lines, Mask: 1}, {Line: -1, Data: []int64{1, 2}}, {Write: true, Line: lines}, writeOf(-1, 0, 1, 2), writeOf(lines, 4, 1, 2), writeOf(math.MinInt64, 1, 1),
		},
	}
}

// gradeLists gives lists of all lengths up to 4 of all grades in every order, and long ones, just so long as is let by and one more, with up to two that are not right at either end and amidst.
func gradeLists(yield func([]int64) bool) {
	for length := range 5 {
		for grades := range everyList(length, isRight, isWrong) {
			if !yield(grades) {
				return
			}
		}
	}
	for _, length := range []int{29, 30, 31, 32, 60} {
		for two := range everyList(2, isRight, isWrong) {
			for _, at := range [][2]int{{0, 1}, {0, length - 1}, {1, length / 2}, {length - 2, length - 1}, {28, 0}} {
				grades := slices.Repeat([]int64{isRight}, length)
				grades[at[0]], grades[at[1]] = two[0], two[1]
				if !yield(grades) {
					return
				}
			}
		}
		for grade := isRight; grade <= isWrong; grade++ {
			if !yield(slices.Repeat([]int64{grade}, length)) {
				return
			}
		}
	}
}

// checkFirstCodes asks of lists of all grades, of right layouts and of wrong ones.
func checkFirstCodes[T any](t *testing.T, gradedOf func(int64) graded[T], wrong int64, check func(*testing.T, impl.Config, []T, int64)) {
	t.Helper()
	for _, c := range []impl.Config{oneLine, fiveLines, {Cores: 2, Sets: 4, Ways: 1, Lines: 15}} {
		g := gradedOf(c.Lines)
		for grades := range gradeLists {
			hasWrong, hasOutside := slices.Contains(grades, isWrong), slices.Contains(grades, isOutside)
			for turn := range 20 {
				list := g.listOf(grades, turn)
				check(t, c, list, firstCode(true, len(list), hasWrong, hasOutside, wrong))
				check(t, noLayouts[turn%len(noLayouts)], list, 1)
			}
			stopIfFailed(t)
		}
	}
}

func TestProgramCodesHaveTheirNumbers(t *testing.T) {
	got := [6]int64{impl.PgOk, impl.PgConfig, impl.PgLong, impl.PgOp, impl.PgAddr, impl.PgDesc}
	if got != [6]int64{0, 1, 2, 3, 4, 5} {
		t.Errorf("the codes are %v", got)
	}
}

// Promise 11, of programs.
func TestProgramFirstCode(t *testing.T) { checkFirstCodes(t, gradedOps, 3, checkProgram) }

// Promise 11, of Descs.
func TestProgramFirstCodeOfDescs(t *testing.T) { checkFirstCodes(t, gradedDescs, 5, checkDescs) }

// Promise 11, written out by hand.
func TestProgramByHand(t *testing.T) {
	two := impl.Config{Cores: 1, Sets: 1, Ways: 1, Lines: 2}
	none := impl.Config{Cores: 1, Sets: 1, Ways: 1}
	bad, far := impl.Op{Kind: 9}, load(4)
	rows := []struct {
		c    impl.Config
		list []impl.Op
		want int64
	}{
		{two, nil, impl.PgOk},
		{two, []impl.Op{load(3), store(0)}, impl.PgOk},
		{none, nil, impl.PgConfig},
		{none, []impl.Op{load(0)}, impl.PgConfig},
		{none, make([]impl.Op, 31), impl.PgConfig},
		{none, []impl.Op{bad, far}, impl.PgConfig},
		{two, make([]impl.Op, 31), impl.PgLong},
		{two, slices.Repeat([]impl.Op{far}, 31), impl.PgLong},
		{two, slices.Repeat([]impl.Op{load(0)}, 31), impl.PgLong},
		{two, make([]impl.Op, 30), impl.PgOp},
		{two, []impl.Op{bad}, impl.PgOp},
		{two, []impl.Op{bad, far}, impl.PgOp},
		{two, []impl.Op{far, bad}, impl.PgOp},
		{two, []impl.Op{far, far, load(0), bad}, impl.PgOp},
		{two, []impl.Op{{Kind: 9, Addr: 4}}, impl.PgOp},
		{two, []impl.Op{load(32)}, impl.PgOp},
		{two, []impl.Op{load(-1)}, impl.PgOp},
		{two, []impl.Op{far}, impl.PgAddr},
		{two, []impl.Op{load(0), far}, impl.PgAddr},
		{two, []impl.Op{far, load(0)}, impl.PgAddr},
		{two, slices.Repeat([]impl.Op{far}, 30), impl.PgAddr},
	}
	for _, r := range rows {
		checkProgram(t, r.c, r.list, r.want)
	}
}

// Promise 11, written out by hand: PgDesc is the greater number, and yet named ahead of PgAddr.
func TestProgramDescsByHand(t *testing.T) {
	two := impl.Config{Cores: 1, Sets: 1, Ways: 1, Lines: 2}
	none := impl.Config{Cores: 1, Sets: 1, Ways: 1}
	bad, far := impl.Desc{Mask: 1}, readOf(2)
	rows := []struct {
		c    impl.Config
		list []impl.Desc
		want int64
	}{
		{two, nil, impl.PgOk},
		{two, []impl.Desc{readOf(1), writeOf(0, 3, 1, 2)}, impl.PgOk},
		{none, nil, impl.PgConfig},
		{none, make([]impl.Desc, 31), impl.PgConfig},
		{none, []impl.Desc{bad, far}, impl.PgConfig},
		{two, make([]impl.Desc, 30), impl.PgOk},
		{two, make([]impl.Desc, 31), impl.PgLong},
		{two, slices.Repeat([]impl.Desc{bad}, 31), impl.PgLong},
		{two, slices.Repeat([]impl.Desc{far}, 31), impl.PgLong},
		{two, []impl.Desc{bad}, impl.PgDesc},
		{two, []impl.Desc{bad, far}, impl.PgDesc},
		{two, []impl.Desc{far, bad}, impl.PgDesc},
		{two, []impl.Desc{far, far, readOf(0), bad}, impl.PgDesc},
		{two, []impl.Desc{{Line: 2, Mask: 1}}, impl.PgDesc},
		{two, []impl.Desc{{Line: -1, Data: []int64{1, 2}}}, impl.PgDesc},
		{two, []impl.Desc{far}, impl.PgAddr},
		{two, []impl.Desc{readOf(-1)}, impl.PgAddr},
		{two, []impl.Desc{readOf(0), far}, impl.PgAddr},
		{two, []impl.Desc{far, readOf(0)}, impl.PgAddr},
		{two, []impl.Desc{writeOf(2, 1, 1, 2)}, impl.PgAddr},
	}
	for _, r := range rows {
		checkDescs(t, r.c, r.list, r.want)
	}
}

// Every layout there is lets an empty list by, and one of its own addresses; whatever its other fields are, its Lines alone tell which.
func TestProgramOfEveryLayout(t *testing.T) {
	for c := range everyLayout {
		checkProgram(t, c, nil, impl.PgOk)
		checkDescs(t, c, nil, impl.PgOk)
		for addr := int64(-2); addr <= 34; addr++ {
			want := int64(impl.PgOk)
			if addr >= 2*c.Lines {
				want = impl.PgAddr
			}
			if addr < 0 || addr > 31 {
				want = impl.PgOp
			}
			checkProgram(t, c, []impl.Op{load(addr)}, want)
			checkProgram(t, c, []impl.Op{load(0), store(addr)}, want)
		}
		for line := int64(-2); line <= 18; line++ {
			want := int64(impl.PgOk)
			if line < 0 || line >= c.Lines {
				want = impl.PgAddr
			}
			checkDescs(t, c, []impl.Desc{readOf(line)}, want)
			checkDescs(t, c, []impl.Desc{writeOf(line, 1, 1, 2), readOf(0)}, want)
		}
		stopIfFailed(t)
	}
}

// A layout that is none is told ahead of all else, whichever of its fields is wrong.
func TestProgramOfNoLayout(t *testing.T) {
	programs := [][]impl.Op{nil, {}, {load(0)}, {load(31)}, {load(-1)}, {{}}, make([]impl.Op, 31), slices.Repeat([]impl.Op{load(0)}, 30)}
	lists := [][]impl.Desc{nil, {}, {readOf(0)}, {readOf(-1)}, {{Write: true}}, make([]impl.Desc, 30), make([]impl.Desc, 31)}
	wrong := slices.Clone(noLayouts)
	for _, c := range someLayouts {
		for _, f := range fieldsOfLayout() {
			for _, n := range f.wrong {
				bad := c
				f.put(&bad, n)
				wrong = append(wrong, bad)
			}
		}
	}
	for _, c := range wrong {
		for _, p := range programs {
			checkProgram(t, c, p, impl.PgConfig)
		}
		for _, l := range lists {
			checkDescs(t, c, l, impl.PgConfig)
		}
	}
}

func TestProgramOfEachLength(t *testing.T) {
	for _, c := range someLayouts {
		for count := range 100 {
			want := int64(impl.PgOk)
			if count > 30 {
				want = impl.PgLong
			}
			checkProgram(t, c, slices.Repeat([]impl.Op{store(1)}, count), want)
			checkDescs(t, c, make([]impl.Desc, count), want)
			checkDescs(t, c, slices.Repeat([]impl.Desc{writeOf(0, 3, 1, 2)}, count), want)
		}
		checkProgram(t, c, make([]impl.Op, 70000), impl.PgLong)
		checkDescs(t, c, make([]impl.Desc, 70000), impl.PgLong)
	}
}

// The last word of the last line, and one past it: of 16 Lines that is no Addr of any op, so it has another code.
func TestProgramAddrEdges(t *testing.T) {
	checkProgram(t, oneLine, []impl.Op{load(0), load(1)}, impl.PgOk)
	checkProgram(t, oneLine, []impl.Op{load(2)}, impl.PgAddr)
	checkProgram(t, oneLine, []impl.Op{load(31)}, impl.PgAddr)
	checkProgram(t, oneLine, []impl.Op{load(32)}, impl.PgOp)
	checkProgram(t, oneLine, []impl.Op{load(-1)}, impl.PgOp)
	checkProgram(t, allLines, []impl.Op{load(0), load(31)}, impl.PgOk)
	checkProgram(t, allLines, []impl.Op{load(32)}, impl.PgOp)
	checkProgram(t, allLines, []impl.Op{load(-1)}, impl.PgOp)
}

// Ops that are right are let by where their Addr is; those with one wrong field are refused in all layouts.
func TestProgramOfEachOp(t *testing.T) {
	for r, o := range someOps {
		checkProgram(t, allLines, []impl.Op{o}, impl.PgOk)
		want := int64(impl.PgOk)
		if o.Addr >= 10 {
			want = impl.PgAddr
		}
		checkProgram(t, fiveLines, []impl.Op{load(9), o}, want)
		if o.Addr != 0 && o.Addr != 31 || o.A > 2 || o.B > 2 {
			continue
		}
		for _, wrong := range oneWrongField(r, o) {
			checkProgram(t, oneLine, []impl.Op{wrong}, impl.PgOp)
			checkProgram(t, allLines, []impl.Op{o, wrong}, impl.PgOp)
			checkProgram(t, oneLine, []impl.Op{wrong, load(31)}, impl.PgOp)
			checkProgram(t, oneLine, []impl.Op{load(31), wrong}, impl.PgOp)
		}
		stopIfFailed(t)
	}
}

// checkOneDesc asks of it alone, and beside others on both sides, one of them out of the Lines.
func checkOneDesc(t *testing.T, d impl.Desc, right bool) {
	t.Helper()
	want, beside := int64(impl.PgOk), int64(impl.PgAddr)
	if !right {
		want, beside = impl.PgDesc, impl.PgDesc
	}
	checkDescs(t, fiveLines, []impl.Desc{d}, want)
	checkDescs(t, fiveLines, []impl.Desc{readOf(4), d, writeOf(4, 2, 0, 9999)}, want)
	checkDescs(t, fiveLines, []impl.Desc{d, readOf(5)}, beside)
	checkDescs(t, fiveLines, []impl.Desc{readOf(-1), d}, beside)
	d.Line = 5
	checkDescs(t, fiveLines, []impl.Desc{d}, beside)
}

func TestProgramReadsHaveNoMaskAndNoData(t *testing.T) {
	for line := range int64(5) {
		checkOneDesc(t, readOf(line), true)
		checkOneDesc(t, impl.Desc{Line: line, Data: []int64{}}, true)
		for _, mask := range append([]int64{1, 2, 3}, wrongMasks...) {
			checkOneDesc(t, impl.Desc{Line: line, Mask: mask}, false)
			checkOneDesc(t, impl.Desc{Line: line, Mask: mask, Data: []int64{1, 2}}, false)
		}
	}
	for l := range someLines {
		checkOneDesc(t, impl.Desc{Data: l}, false)
	}
	for l := range noLines {
		checkOneDesc(t, impl.Desc{Data: l}, len(l) == 0)
	}
}

func TestProgramWritesHaveAMaskAndALine(t *testing.T) {
	for line := range int64(5) {
		for mask := int64(-2); mask <= 5; mask++ {
			checkOneDesc(t, writeOf(line, mask, 1, 2), mask >= 1 && mask <= 3)
			checkOneDesc(t, writeOf(line, mask), false)
		}
	}
	for l := range someLines {
		for mask := range int64(5) {
			checkOneDesc(t, writeOf(0, mask, l...), mask >= 1 && mask <= 3)
		}
		for _, mask := range wrongMasks {
			checkOneDesc(t, writeOf(0, mask, l...), false)
		}
	}
	for l := range noLines {
		for mask := range int64(5) {
			checkOneDesc(t, writeOf(0, mask, l...), false)
		}
	}
}

func TestProgramDescLineEdges(t *testing.T) {
	for _, c := range someLayouts {
		for _, at := range []func(int64) impl.Desc{readOf, func(line int64) impl.Desc { return writeOf(line, 1, 9999, 0) }} {
			checkDescs(t, c, []impl.Desc{at(0)}, impl.PgOk)
			checkDescs(t, c, []impl.Desc{at(c.Lines - 1)}, impl.PgOk)
			checkDescs(t, c, []impl.Desc{at(-1)}, impl.PgAddr)
			checkDescs(t, c, []impl.Desc{at(c.Lines)}, impl.PgAddr)
			for _, line := range noLineNumbers {
				checkDescs(t, c, []impl.Desc{at(line)}, impl.PgAddr)
				checkDescs(t, c, []impl.Desc{at(0), at(line), at(0)}, impl.PgAddr)
			}
		}
	}
}

// What is not refused has all its lines in the Lines, and no op of it is passed over.
func TestProgramNotRefusedIsInTheLines(t *testing.T) {
	passed := 0
	for c := range everyLayout {
		for addrs := range everyList(3, 0, 4) {
			var list []impl.Op
			for _, n := range addrs {
				list = append(list, store(n*n+2*n), load(min(n*c.Lines/2, 31)))
			}
			if impl.ProgramCode(c, list) != impl.PgOk {
				continue
			}
			passed++
			touched := impl.Touches(list)
			for _, o := range list {
				if line := impl.LineOf(c, o.Addr); line < 0 || !slices.Contains(touched, line) {
					t.Errorf("%+v is let by, and %+v goes to line %d, touched are %v", c, o, line, touched)
				}
			}
		}
		stopIfFailed(t)
	}
	if passed < 1000 {
		t.Errorf("only %d programs were let by", passed)
	}
}

// The answer hangs on what is in the list, not on where.
func TestProgramCodeIsTheSameInBothOrders(t *testing.T) {
	ops, descs := gradedOps(5), gradedDescs(5)
	for grades := range gradeLists {
		for turn := range 5 {
			p, l := ops.listOf(grades, turn), descs.listOf(grades, turn)
			code, descCode := impl.ProgramCode(fiveLines, p), impl.DescCode(fiveLines, l)
			slices.Reverse(p)
			slices.Reverse(l)
			checkProgram(t, fiveLines, p, code)
			checkDescs(t, fiveLines, l, descCode)
		}
	}
}

func TestProgramWork(t *testing.T) {
	one, three := []impl.Op{load(0)}, []impl.Op{load(0), store(1), load(0)}
	descs := []impl.Desc{readOf(0), writeOf(0, 1, 1, 2)}
	checkWork(t, nil, nil, 0)
	checkWork(t, [][]impl.Op{}, []impl.Desc{}, 0)
	checkWork(t, [][]impl.Op{nil}, nil, 0)
	checkWork(t, [][]impl.Op{nil, {}, nil, {}}, nil, 0)
	checkWork(t, nil, descs, 2)
	checkWork(t, [][]impl.Op{nil, nil}, descs, 2)
	checkWork(t, [][]impl.Op{one}, nil, 1)
	checkWork(t, [][]impl.Op{three}, nil, 3)
	checkWork(t, [][]impl.Op{three}, descs, 5)
	checkWork(t, [][]impl.Op{nil, three, {}, one}, nil, 4)
	checkWork(t, [][]impl.Op{nil, three, {}, one}, descs, 6)
	checkWork(t, [][]impl.Op{one, one, one, one}, descs[:1], 5)
	checkWork(t, slices.Repeat([][]impl.Op{make([]impl.Op, 30)}, 4), make([]impl.Desc, 30), 150)
}

// All are counted, those that would be refused too.
func TestProgramWorkOfWrongOnes(t *testing.T) {
	wrong, wrongDescs := gradedOps(5)[isWrong], gradedDescs(5)[isWrong]
	checkWork(t, [][]impl.Op{wrong}, nil, int64(len(wrong)))
	checkWork(t, [][]impl.Op{wrong, nil, wrong}, wrongDescs, int64(2*len(wrong)+len(wrongDescs)))
	checkWork(t, [][]impl.Op{make([]impl.Op, 31)}, make([]impl.Desc, 31), 62)
	checkWork(t, slices.Repeat([][]impl.Op{{{}, {}}}, 500), make([]impl.Desc, 7), 1007)
}

func TestProgramWorkOfAllSmallLengths(t *testing.T) {
	for lengths := range everyList(4, 0, 3) {
		var programs [][]impl.Op
		for _, n := range lengths[1:] {
			programs = append(programs, make([]impl.Op, n))
		}
		checkWork(t, programs, make([]impl.Desc, lengths[0]), lengths[0]+lengths[1]+lengths[2]+lengths[3])
	}
}

func TestProgramTouches(t *testing.T) {
	checkTouches(t, nil, nil)
	checkTouches(t, []impl.Op{}, nil)
	checkTouches(t, []impl.Op{{}}, nil)
	checkTouches(t, []impl.Op{{Kind: 9, Addr: 2}, {Kind: impl.OpLoad, Addr: 4, A: 1}, load(32), load(-1)}, nil)
	checkTouches(t, []impl.Op{load(0)}, []int64{0})
	checkTouches(t, []impl.Op{load(31)}, []int64{15})
	checkTouches(t, []impl.Op{load(6), store(7)}, []int64{3})
	checkTouches(t, []impl.Op{store(7), load(6), store(7)}, []int64{3})
	checkTouches(t, []impl.Op{load(31), load(0)}, []int64{0, 15})
	checkTouches(t, []impl.Op{load(9), store(2), load(30), load(8), load(3), load(21)}, []int64{1, 4, 10, 15})
	checkTouches(t, []impl.Op{load(9), {Kind: 9, Addr: 12}, load(-2), store(2), load(32)}, []int64{1, 4})
	checkTouches(t, slices.Repeat([]impl.Op{store(19), load(18)}, 5000), []int64{9})
}

func TestProgramTouchesOfEachOp(t *testing.T) {
	lineOf := placesOf(16)
	for r, o := range someOps {
		checkTouches(t, []impl.Op{o}, []int64{lineOf[o.Addr].line})
		if o.Addr != 0 && o.Addr != 31 || o.A > 2 || o.B > 2 {
			continue
		}
		for _, wrong := range oneWrongField(r, o) {
			checkTouches(t, []impl.Op{wrong}, nil)
			checkTouches(t, []impl.Op{wrong, load(5), wrong}, []int64{2})
		}
	}
	for addr, p := range lineOf {
		for _, r := range opRows {
			checkTouches(t, []impl.Op{{Kind: r.kind, Addr: int64(addr)}}, []int64{p.line})
		}
	}
}

// Each four of some addresses in every order: what is touched stands by its number, not by who came first.
func TestProgramTouchesInRisingOrder(t *testing.T) {
	lineOf := placesOf(16)
	addrs := []int64{0, 1, 2, 17, 18, 30, 31}
	for picks := range everyList(4, 0, int64(len(addrs)-1)) {
		var list []impl.Op
		var there [16]bool
		for _, n := range picks {
			list = append(list, load(addrs[n]))
			there[lineOf[addrs[n]].line] = true
		}
		var want []int64
		for line, is := range there {
			if is {
				want = append(want, int64(line))
			}
		}
		checkTouches(t, list, want)
	}
}

// All lines at once, from the last one down.
func TestProgramTouchesOfAllLines(t *testing.T) {
	var list []impl.Op
	var want []int64
	for line := range int64(16) {
		list = append(list, load(31-2*line), store(30-2*line))
		want = append(want, line)
	}
	checkTouches(t, list, want)
	checkTouches(t, slices.Repeat(list, 20), want)
}

// An answer that is changed, in its spare room too, changes no other one.
func TestProgramTouchesAnswersNewMemory(t *testing.T) {
	list := roomyOps([]impl.Op{load(9), store(2), load(30)})
	first, second := impl.Touches(list), impl.Touches(list)
	spoil(first)
	if !slices.Equal(second, []int64{1, 4, 15}) {
		t.Errorf("two answers share memory: %v", second)
	}
	if third := impl.Touches(list); !slices.Equal(third, []int64{1, 4, 15}) {
		t.Errorf("an answer that is changed changes the next one: %v", third)
	}
	spoil(impl.Touches(nil))
	checkTouches(t, nil, nil)
	list[0] = load(0)
	if !slices.Equal(second, []int64{1, 4, 15}) {
		t.Errorf("an argument that is changed changes an answer: %v", second)
	}
}
