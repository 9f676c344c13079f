package tests

import (
	"fmt"
	"math"
	"slices"
	"testing"

	"loop.example/g00342/impl"
)

// coreAnswer is all that Begun or Got answers.
type coreAnswer struct {
	core impl.Core
	msgs []impl.Msg
	code int64
}

var noCoreAnswer = coreAnswer{code: -1}

func sameCore(a impl.Core, b impl.Core) bool {
	return sameStore(a.Cache, b.Cache) && slices.Equal(a.Program, b.Program) && a.At == b.At && a.Phase == b.Phase && sameWay(a.Held, b.Held) && slices.Equal(a.Told, b.Told)
}

func (a coreAnswer) same(b coreAnswer) bool {
	return sameCore(a.core, b.core) && sameNet(a.msgs, b.msgs) && a.code == b.code
}

func (a coreAnswer) copied() coreAnswer {
	return coreAnswer{coreCopy(a.core), netCopy(a.msgs), a.code}
}

// coreCopy shares nothing with the core; it is without spare room.
func coreCopy(c impl.Core) impl.Core {
	c.Cache = storeCopy(c.Cache)
	c.Program = slices.Clone(c.Program)
	c.Held = wayOf(c.Held.Line, c.Held.State, slices.Clone(c.Held.Data)...)
	c.Told = slices.Clone(c.Told)
	return c
}

// roomyCore gives a copy with spare room behind each list of it.
func roomyCore(c impl.Core) impl.Core {
	c.Cache = roomyStore(c.Cache)
	c.Program = roomyOps(c.Program)
	c.Held.Data = roomy(c.Held.Data)
	c.Told = roomy(c.Told)
	return c
}

// pictureOfCore tells all of a core, with the spare room behind each list and where each list stands.
func pictureOfCore(c impl.Core) string {
	return picture(c.Cache) + pictureOfWay(c.Held) + fmt.Sprintf(" %p %v %p %v %d %d", c.Program, c.Program[:cap(c.Program)], c.Told, c.Told[:cap(c.Told)], c.At, c.Phase)
}

func checkCoreOk(t *testing.T, c impl.Core, want bool) {
	t.Helper()
	given := roomyCore(c)
	was := pictureOfCore(given)
	if got := impl.CoreOk(given); got != want {
		t.Errorf("CoreOk(%+v) = %v", c, got)
	}
	if pictureOfCore(given) != was {
		t.Errorf("CoreOk(%+v) wrote into its argument", c)
	}
}

func checkBegun(t *testing.T, c impl.Core, id int64, want coreAnswer) {
	t.Helper()
	given := roomyCore(c)
	was := pictureOfCore(given)
	core, msgs, code := impl.Begun(given, id)
	if got := (coreAnswer{core, msgs, code}); !got.same(want) {
		t.Errorf("Begun(%+v, %d) = %+v, want %+v", c, id, got, want)
	}
	if pictureOfCore(given) != was {
		t.Errorf("Begun(%+v, %d) wrote into its argument", c, id)
	}
}

func checkGot(t *testing.T, c impl.Core, id int64, m impl.Msg, want coreAnswer) {
	t.Helper()
	given, letter := roomyCore(c), roomyLetter(m)
	was, wasLetter := pictureOfCore(given), pictureOfLetter(letter)
	core, msgs, code := impl.Got(given, id, letter)
	if got := (coreAnswer{core, msgs, code}); !got.same(want) {
		t.Errorf("Got(%+v, %d, %+v) = %+v, want %+v", c, id, m, got, want)
	}
	if pictureOfCore(given) != was || pictureOfLetter(letter) != wasLetter {
		t.Errorf("Got(%+v, %d, %+v) wrote into an argument", c, id, m)
	}
}

func asWas(c impl.Core) coreAnswer { return coreAnswer{core: c} }

// modelOf is the model of a right store.
func modelOf(c impl.Cache) *model {
	m := newModel(int64(len(c.Sets)), int64(len(c.Sets[0])))
	for set, row := range c.Sets {
		for way, w := range row {
			if w.Line != noLine {
				m.there[spot{int64(set), int64(way)}] = w
			}
		}
	}
	m.trees = slices.Clone(c.Trees)
	return m
}

func (m *model) wayOf(line int64) impl.Way {
	if at, is := m.find(line); is {
		return m.there[at]
	}
	return empty()
}

// doneTo is the core when its op was done to the line that is this Way; it is nothing where the way has no room.
func doneTo(c impl.Core, w impl.Way) (impl.Core, bool) {
	o := c.Program[c.At]
	then, said := saidBy(o, w.Data[o.Addr%2])
	w.Data = slices.Clone(w.Data)
	w.Data[o.Addr%2] = then
	if o.Kind != 1 {
		w.State = 3
	}
	store := modelOf(c.Cache)
	is := store.fill(w)
	fresh := coreCopy(c)
	fresh.Cache, fresh.At, fresh.Told, fresh.Phase = store.store(), c.At+1, append(fresh.Told, said), 0
	return fresh, is
}

// mayDo tells by hand in which states an op is done at once.
func mayDo(o impl.Op, state int64) bool {
	if o.Kind == 1 {
		return state >= 1 && state <= 3
	}
	return state == 2 || state == 3
}

// begins is the chapter's text of Begun over again, of a right core.
func begins(c impl.Core, id int64) coreAnswer {
	if c.Phase != 0 || c.At == int64(len(c.Program)) {
		return asWas(c)
	}
	o := c.Program[c.At]
	line := o.Addr / 2
	store := modelOf(c.Cache)
	if w := store.wayOf(line); mayDo(o, w.State) {
		fresh, _ := doneTo(c, w)
		return coreAnswer{fresh, nil, 1}
	}
	fresh := coreCopy(c)
	if goes := store.leaves(line); goes != noLine {
		fresh.Held, fresh.Phase = store.wayOf(goes), 1
		store.drop(goes)
		fresh.Cache = store.store()
		m := impl.Msg{Road: 0, From: id, To: 4, Kind: 3, Line: goes}
		if fresh.Held.State != 1 {
			m.Data, m.Flag = fresh.Held.Data, 1
		}
		return coreAnswer{fresh, []impl.Msg{m}, 2}
	}
	fresh.Phase = 2
	kind := int64(2)
	if o.Kind == 1 {
		kind = 1
	}
	return coreAnswer{fresh, []impl.Msg{{Road: 0, From: id, To: 4, Kind: kind, Line: line}}, 3}
}

// answerRow tells of one who has a line in this state and is asked by this Kind what is told, and in which state it is left.
type answerRow struct {
	state, kind int64
	reply, flag int64
	left        int64
}

// Of a line that is in the store, and of one that is not there at all.
var answersOfStore = []answerRow{
	{0, 6, 9, 1, 0}, {0, 7, 9, 1, 0},
	{1, 6, 9, 0, 1}, {1, 7, 9, 1, 0},
	{2, 6, 8, 0, 1}, {2, 7, 8, 1, 0},
	{3, 6, 8, 0, 1}, {3, 7, 8, 1, 0},
}

// Of a line that is Held, or was let go meanwhile.
var answersOfHeld = []answerRow{
	{0, 6, 9, 1, 0}, {0, 7, 9, 1, 0},
	{1, 6, 9, 0, 1}, {1, 7, 9, 1, 0},
	{2, 6, 8, 1, 0}, {2, 7, 8, 1, 0},
	{3, 6, 8, 1, 0}, {3, 7, 8, 1, 0},
}

func rowFor(rows []answerRow, state int64, kind int64) answerRow {
	at := slices.IndexFunc(rows, func(r answerRow) bool { return r.state == state && r.kind == kind })
	return rows[at]
}

func (r answerRow) letter(id int64, line int64, data []int64) []impl.Msg {
	m := impl.Msg{Road: 2, From: id, To: 4, Kind: r.reply, Line: line, Flag: r.flag}
	if r.reply == 8 {
		m.Data = data
	}
	return []impl.Msg{m}
}

func getsAsked(c impl.Core, id int64, m impl.Msg) coreAnswer {
	if m.Line < 0 || m.Line > 15 {
		return asWas(c)
	}
	fresh := coreCopy(c)
	if c.Held.Line == m.Line {
		r := rowFor(answersOfHeld, c.Held.State, m.Kind)
		if r.left == 0 {
			fresh.Held = wayOf(m.Line, 0)
		}
		return coreAnswer{fresh, r.letter(id, m.Line, c.Held.Data), 1}
	}
	store := modelOf(c.Cache)
	w := store.wayOf(m.Line)
	r := rowFor(answersOfStore, w.State, m.Kind)
	if at, is := store.find(m.Line); is {
		store.there[at] = wayOf(m.Line, r.left, w.Data...)
		if r.left == 0 {
			delete(store.there, at)
		}
	}
	fresh.Cache = store.store()
	return coreAnswer{fresh, r.letter(id, m.Line, w.Data), 1}
}

func getsGrant(c impl.Core, id int64, m impl.Msg) coreAnswer {
	if c.Phase != 2 || c.Program[c.At].Addr/2 != m.Line || len(m.Data) != 2 || !mayDo(c.Program[c.At], m.Flag) {
		return asWas(c)
	}
	for _, word := range m.Data {
		if word < 0 || word > 9999 {
			return asWas(c)
		}
	}
	fresh, is := doneTo(c, wayOf(m.Line, m.Flag, m.Data...))
	if !is {
		return asWas(c)
	}
	return coreAnswer{fresh, []impl.Msg{{Road: 2, From: id, To: 4, Kind: 10, Line: m.Line}}, 2}
}

// gets is the chapter's text of Got over again, of a right core.
func gets(c impl.Core, id int64, m impl.Msg) coreAnswer {
	switch m.Kind {
	case 6, 7:
		return getsAsked(c, id, m)
	case 12:
		if c.Phase == 1 && c.Held.Line == m.Line {
			fresh := coreCopy(c)
			fresh.Phase, fresh.Held = 0, empty()
			return coreAnswer{fresh, nil, 1}
		}
	case 11:
		return getsGrant(c, id, m)
	}
	return asWas(c)
}

// checkStaysRight holds all that is promised of one answer against what a right core can be.
func checkStaysRight(t *testing.T, before impl.Core, after coreAnswer) {
	t.Helper()
	if !impl.CoreOk(after.core) || !coreRight(after.core) {
		t.Errorf("of %+v came a core that is not right: %+v", before, after.core)
	}
	if !impl.NetOk(after.msgs) {
		t.Errorf("of %+v came letters that are not right: %+v", before, after.msgs)
	}
	if after.code == 0 && (!sameCore(before, after.core) || len(after.msgs) != 0) {
		t.Errorf("%+v does nothing, and is %+v", before, after)
	}
}

func checkBegins(t *testing.T, c impl.Core, id int64) coreAnswer {
	t.Helper()
	want := begins(c, id)
	checkBegun(t, c, id, want)
	checkStaysRight(t, c, want)
	return want
}

func checkGets(t *testing.T, c impl.Core, id int64, m impl.Msg) coreAnswer {
	t.Helper()
	want := gets(c, id, m)
	checkGot(t, c, id, m, want)
	checkStaysRight(t, c, want)
	return want
}

// idle is a core that has done nothing yet.
func idle(store impl.Cache, list ...impl.Op) impl.Core {
	return impl.Core{Cache: store, Program: list, Held: empty()}
}

func waiting(store impl.Cache, list ...impl.Op) impl.Core {
	c := idle(store, list...)
	c.Phase = impl.PhWait
	return c
}

func evicting(store impl.Cache, held impl.Way, list ...impl.Op) impl.Core {
	c := idle(store, list...)
	c.Phase, c.Held = impl.PhEvict, held
	return c
}

// behind is the core when it has done this many ops already, of which it tells these numbers.
func behind(c impl.Core, said ...int64) impl.Core {
	var list []impl.Op
	for range said {
		list = append(list, load(31))
	}
	c.Program, c.At, c.Told = append(list, c.Program...), int64(len(said)), said
	return c
}

// storeRight is told by lists of what there is, of stores of right sizes.
func storeRight(c impl.Cache) bool {
	var seen []int64
	for set, row := range c.Sets {
		for _, w := range row {
			if sameWay(w, empty()) {
				continue
			}
			if w.Line < 0 || w.Line > 15 || w.State < 1 || w.State > 3 || !impl.LineOk(w.Data) || setsOf(int64(len(c.Sets)), 16)[w.Line] != int64(set) || slices.Contains(seen, w.Line) {
				return false
			}
			seen = append(seen, w.Line)
		}
		if c.Trees[set] < 0 || c.Trees[set] > lastTrees[int64(len(row))] {
			return false
		}
	}
	return true
}

// coreRight is the chapter's text over again, of a core with a store of a right size.
func coreRight(c impl.Core) bool {
	if !storeRight(c.Cache) || len(c.Program) > 30 || c.At < 0 || c.At > int64(len(c.Program)) || int64(len(c.Told)) != c.At {
		return false
	}
	for _, o := range c.Program {
		if !impl.OpOk(o) {
			return false
		}
	}
	free := sameWay(c.Held, empty())
	switch c.Phase {
	case 0:
		return free
	case 1:
		right := c.Held.State >= 1 && c.Held.State <= 3 && impl.LineOk(c.Held.Data) || c.Held.State == 0 && len(c.Held.Data) == 0
		_, there := modelOf(c.Cache).find(c.Held.Line)
		return right && c.Held.Line >= 0 && c.Held.Line <= 15 && !there
	case 2:
		return free && c.At < int64(len(c.Program))
	}
	return false
}

func TestCoreConstants(t *testing.T) {
	rows := [][]int64{
		{impl.PhIdle, impl.PhEvict, impl.PhWait},
		{impl.BgNone, impl.BgDone, impl.BgEvict, impl.BgAsk},
		{impl.GtNone, impl.GtDone, impl.GtOp},
		{0, impl.MsRead, impl.MsWrite, impl.MsPut, impl.MsSnap, impl.MsSet, impl.MsFetch, impl.MsInvalid, impl.MsData, impl.MsAck, impl.MsDone, impl.MsGrant, impl.MsPutAck, impl.MsTold},
	}
	for _, row := range rows {
		for want, got := range row {
			if got != int64(want) {
				t.Errorf("of %v number %d is %d", row, want, got)
			}
		}
	}
	if impl.Home != 4 || impl.Port != 5 {
		t.Errorf("Home is %d, Port is %d", impl.Home, impl.Port)
	}
}

// manyOps is a list of this length of right ops of all Kinds.
func manyOps(length int) []impl.Op {
	var list []impl.Op
	for i := range length {
		r := opRows[i%len(opRows)]
		o := impl.Op{Kind: r.kind, Addr: int64(7*i) % 32}
		if r.hasA {
			o.A = int64(i)
		}
		if r.hasB {
			o.B = 9999
		}
		list = append(list, o)
	}
	return list
}

var wrongOps = []impl.Op{{}, {Kind: 6}, {Kind: -1}, {Kind: impl.OpLoad, A: 1}, {Kind: impl.OpLoad, B: 1}, {Kind: impl.OpStore, A: 10000}, {Kind: impl.OpAdd, A: -1}, {Kind: impl.OpSwap, B: 1}, {Kind: impl.OpCas, B: -1}, load(-1), load(32), load(math.MinInt64), load(math.MaxInt64)}

func checkNewCore(t *testing.T, sets int64, ways int64, list []impl.Op, is bool) {
	t.Helper()
	want := impl.Core{}
	if is {
		want = idle(emptyStore(sets, ways), list...)
	}
	given := roomyOps(list)
	got, done := impl.NewCore(sets, ways, given)
	if !sameCore(got, want) || done != is {
		t.Errorf("NewCore(%d, %d, %+v) = %+v, %v", sets, ways, list, got, done)
	}
	if impl.CoreOk(got) != is {
		t.Errorf("NewCore(%d, %d, %+v): CoreOk of it is %v", sets, ways, list, !is)
	}
	spoilCore(got)
	if !untouchedOps(given, list) {
		t.Errorf("NewCore(%d, %d, %+v) wrote into its list, or shares it", sets, ways, list)
	}
}

func TestCoreNewOfEverySize(t *testing.T) {
	for sets, ways := range everySize {
		for _, length := range []int{0, 1, 2, 29, 30, 31, 32, 100} {
			checkNewCore(t, sets, ways, manyOps(length), length <= 30)
		}
		for length := 1; length <= 31; length += 6 {
			for at := range length {
				for _, o := range wrongOps {
					list := manyOps(length)
					list[at] = o
					checkNewCore(t, sets, ways, list, false)
				}
			}
		}
	}
	if c, is := impl.NewCore(2, 4, nil); !is || !impl.CoreOk(c) {
		t.Errorf("NewCore without a program: %+v, %v", c, is)
	}
}

func TestCoreNewOfWrongSizes(t *testing.T) {
	for _, size := range slices.Concat(wrongSizes, farWays, farLines) {
		for _, list := range [][]impl.Op{nil, manyOps(1), manyOps(30), manyOps(31), {{}}} {
			for _, right := range rightSizes {
				checkNewCore(t, size, right, list, false)
				checkNewCore(t, right, size, list, false)
			}
			checkNewCore(t, size, size, list, false)
		}
	}
}

// someCores gives right cores of every size, with empty, half and full stores, in every Phase, with and without an op left.
func someCores(yield func(impl.Core) bool) {
	for sets, ways := range everySize {
		for _, c := range []impl.Cache{emptyStore(sets, ways), halfStore(sets, ways), fullStore(sets, ways)} {
			for core := range coresWith(c) {
				if !yield(core) {
					return
				}
			}
		}
	}
}

// fewCores gives those of some sizes, for all that need not be asked of every one.
func fewCores(yield func(impl.Core) bool) {
	for _, c := range []impl.Cache{emptyStore(1, 1), fullStore(1, 2), halfStore(2, 4)} {
		for core := range coresWith(c) {
			if !yield(core) {
				return
			}
		}
	}
}

// notThere is a line that the store has not, the first or the last such one; some stores have all lines.
func notThere(c impl.Cache, last bool) int64 {
	found := noLine
	for line := range int64(16) {
		if _, is := modelOf(c).find(line); !is && (last || found == noLine) {
			found = line
		}
	}
	return found
}

func coresWith(c impl.Cache) func(func(impl.Core) bool) {
	return func(yield func(impl.Core) bool) {
		line := notThere(c, false)
		list := []impl.Core{idle(c), idle(c, load(5)), behind(idle(c), 3, 9999), behind(idle(c, store(30)), 7), waiting(c, load(2)), behind(waiting(c, store(31)), 0, 1, 2)}
		if line != noLine {
			for state := range int64(4) {
				held := wayOf(line, state, 51, 52)
				if state == 0 {
					held.Data = nil
				}
				list = append(list, evicting(c, held), behind(evicting(c, held, load(2*line)), 8), evicting(c, held, store(0), load(1)))
			}
		}
		for _, core := range list {
			if !yield(core) {
				return
			}
		}
	}
}

// checkNoCore asks all that is asked of a core.
func checkNoCore(t *testing.T, c impl.Core) {
	t.Helper()
	checkCoreOk(t, c, false)
	for _, id := range []int64{math.MinInt64, -1, 0, 3, 4, math.MaxInt64} {
		checkBegun(t, c, id, noCoreAnswer)
		for _, kind := range []int64{0, impl.MsFetch, impl.MsInvalid, impl.MsPutAck, impl.MsGrant} {
			checkGot(t, c, id, impl.Msg{Kind: kind, Line: 1, Data: []int64{1, 2}, Flag: impl.StM}, noCoreAnswer)
		}
	}
	stopIfFailed(t)
}

func TestCoreOfWrongStores(t *testing.T) {
	for c := range fewCores {
		checkCoreOk(t, c, true)
		wrong := []impl.Cache{{}, {Sets: c.Cache.Sets}, {Trees: c.Cache.Trees}, withTree(c.Cache, 0, 8), withTree(c.Cache, 0, -1), withWay(c.Cache, 0, 0, impl.Way{}), withWay(c.Cache, 0, 0, wayOf(0, impl.StI)), withWay(c.Cache, 0, 0, wayOf(0, impl.StM, 1, 10000)), emptyStore(3, 1), emptyStore(1, 3), emptyStore(0, 0), emptyStore(8, 8)}
		for _, bad := range wrong {
			d := coreCopy(c)
			d.Cache = bad
			checkNoCore(t, d)
		}
	}
}

func TestCoreOfWrongPrograms(t *testing.T) {
	for _, o := range wrongOps {
		for _, length := range []int{1, 2, 15, 30} {
			for at := range length {
				list := manyOps(length)
				list[at] = o
				checkNoCore(t, idle(emptyStore(1, 2), list...))
			}
		}
		checkNoCore(t, waiting(emptyStore(1, 2), o))
		checkNoCore(t, waiting(emptyStore(1, 2), load(0), o))
		checkNoCore(t, evicting(emptyStore(1, 2), wayOf(3, impl.StI), o))
	}
	for _, length := range []int{31, 32, 100} {
		checkNoCore(t, idle(fullStore(2, 2), manyOps(length)...))
		checkNoCore(t, waiting(fullStore(2, 2), manyOps(length)...))
	}
	for length := range 31 {
		checkCoreOk(t, idle(fullStore(2, 2), manyOps(length)...), true)
		checkCoreOk(t, waiting(fullStore(2, 2), manyOps(length)...), length > 0)
	}
}

// How many ops, how many numbers told, and At, each around the others.
func TestCoreOfEveryAt(t *testing.T) {
	for _, length := range []int64{0, 1, 2, 3, 29, 30} {
		ats := append([]int64{-2, -1, 0, 1, 2, 3, 4, 28, 29, 30, 31, 32}, farNumbers...)
		for _, at := range ats {
			for _, count := range []int64{0, 1, 2, 3, 4, 28, 29, 30, 31, 32} {
				for phase := int64(-1); phase <= 3; phase++ {
					c := idle(halfStore(2, 2), manyOps(int(length))...)
					c.At, c.Phase, c.Told = at, phase, make([]int64, count)
					if phase == impl.PhEvict {
						c.Held = wayOf(15, impl.StE, 3, 4)
					}
					if want := coreRight(c); want {
						checkCoreOk(t, c, true)
						continue
					}
					checkCoreOk(t, c, false)
					checkBegun(t, c, 0, noCoreAnswer)
					checkGot(t, c, 0, impl.Msg{Kind: impl.MsFetch}, noCoreAnswer)
				}
			}
			stopIfFailed(t)
		}
	}
}

// What was told may be any numbers: the chapter asks only how many.
func TestCoreOfAnyNumbersTold(t *testing.T) {
	for _, n := range farNumbers {
		checkCoreOk(t, behind(idle(emptyStore(1, 1)), n, -n), true)
	}
}

func TestCoreOfWrongPhases(t *testing.T) {
	for c := range fewCores {
		for _, phase := range wrongStates {
			d := coreCopy(c)
			d.Phase = phase
			checkNoCore(t, d)
		}
		d := coreCopy(c)
		d.Phase = 3
		checkNoCore(t, d)
	}
}

func TestCoreWaitsForAnOp(t *testing.T) {
	for sets, ways := range everySize {
		checkCoreOk(t, waiting(fullStore(sets, ways), load(0)), true)
		checkNoCore(t, waiting(fullStore(sets, ways)))
		checkNoCore(t, behind(waiting(fullStore(sets, ways)), 4))
		checkCoreOk(t, behind(waiting(fullStore(sets, ways), store(1)), 4), true)
	}
	full := waiting(emptyStore(1, 1), manyOps(30)...)
	full.At, full.Told = 30, make([]int64, 30)
	checkNoCore(t, full)
	full.At, full.Told = 29, make([]int64, 29)
	checkCoreOk(t, full, true)
}

// Every kind of Way is Held, in every Phase, beside stores that have its line and such as have not.
func TestCoreOfEveryHeld(t *testing.T) {
	stores := []impl.Cache{emptyStore(1, 1), halfStore(2, 4), fullStore(4, 4)}
	count := 0
	for r := range everyKindOfWay {
		for _, c := range stores {
			for phase := int64(0); phase <= 2; phase++ {
				core := idle(c, load(3))
				core.Phase, core.Held = phase, r.w
				want := coreRight(core)
				if got := impl.CoreOk(core); got != want {
					t.Errorf("CoreOk(%+v) = %v", core, got)
				}
				if want && phase == 1 {
					count++
				}
			}
		}
		stopIfFailed(t)
	}
	// In halfStore(2, 4) are four lines; in fullStore(4, 4) are all.
	if want := (16 + 12) * (3*3 + 2); count != want {
		t.Fatalf("looked at %d right ones that are Held, want %d", count, want)
	}
}

func TestCoreHeldByHand(t *testing.T) {
	c := withWay(emptyStore(2, 2), 1, 1, wayOf(3, impl.StS, 1, 2))
	right := []impl.Way{wayOf(1, impl.StS, 1, 2), wayOf(1, impl.StE, 0, 0), wayOf(15, impl.StM, 9999, 9999), wayOf(0, impl.StI), wayOf(15, impl.StI)}
	wrong := []impl.Way{empty(), {}, wayOf(3, impl.StS, 1, 2), wayOf(3, impl.StM, 1, 2), wayOf(3, impl.StI), wayOf(1, impl.StS), wayOf(1, impl.StI, 1, 2), wayOf(1, impl.StM, 1), wayOf(1, impl.StE, 1, 2, 3), wayOf(1, 4, 1, 2), wayOf(1, -1), wayOf(16, impl.StI), wayOf(16, impl.StS, 1, 2), wayOf(-1, impl.StS, 1, 2), wayOf(-2, impl.StI), wayOf(2, impl.StM, 1, 10000), wayOf(2, impl.StM, -1, 0)}
	for _, w := range right {
		checkCoreOk(t, evicting(c, w), true)
		checkCoreOk(t, evicting(c, w, load(0)), true)
		for _, phase := range []int64{impl.PhIdle, impl.PhWait} {
			d := evicting(c, w, load(0))
			d.Phase = phase
			checkNoCore(t, d)
		}
	}
	for _, w := range wrong {
		if w.Line == 0 { // the zero Way is line 0 that was let go
			checkCoreOk(t, evicting(c, w), true)
		} else {
			checkNoCore(t, evicting(c, w))
			checkNoCore(t, evicting(c, w, load(0)))
		}
		for _, phase := range []int64{impl.PhIdle, impl.PhWait} {
			d := evicting(c, w, load(0))
			d.Phase = phase
			if w.Line == noLine && w.State == impl.StI {
				checkCoreOk(t, d, true)
				continue
			}
			checkNoCore(t, d)
		}
	}
}

func TestCoreOfNothing(t *testing.T) {
	checkNoCore(t, impl.Core{})
	checkNoCore(t, impl.Core{Held: empty()})
	checkNoCore(t, impl.Core{Cache: emptyStore(1, 1)})
	checkNoCore(t, impl.Core{At: math.MinInt64, Phase: math.MinInt64, Held: wayOf(math.MinInt64, math.MinInt64)})
	checkNoCore(t, impl.Core{Cache: emptyStore(1, 1), At: math.MaxInt64, Phase: math.MaxInt64, Held: wayOf(math.MaxInt64, math.MaxInt64)})
	for _, far := range farNumbers {
		checkNoCore(t, evicting(emptyStore(2, 2), wayOf(far, impl.StS, 1, 2)))
		checkNoCore(t, evicting(emptyStore(2, 2), wayOf(far, impl.StI)))
		checkNoCore(t, evicting(emptyStore(2, 2), wayOf(1, far, 1, 2)))
	}
	for _, word := range wrongValues {
		checkNoCore(t, evicting(emptyStore(2, 2), wayOf(1, impl.StM, word, 2)))
		checkNoCore(t, evicting(emptyStore(2, 2), wayOf(1, impl.StM, 2, word)))
	}
}

func TestCoreOfWrongIds(t *testing.T) {
	for c := range fewCores {
		for id := range int64(4) {
			checkBegins(t, c, id)
			checkGets(t, c, id, impl.Msg{Kind: impl.MsInvalid, Line: 0})
		}
		for _, id := range wrongCoreNumbers {
			checkBegun(t, c, id, noCoreAnswer)
			for _, kind := range []int64{0, 1, impl.MsFetch, impl.MsInvalid, impl.MsPutAck, impl.MsGrant} {
				checkGot(t, c, id, impl.Msg{Kind: kind, Line: max(c.Held.Line, 1), Data: []int64{1, 2}, Flag: impl.StM}, noCoreAnswer)
			}
		}
		stopIfFailed(t)
	}
}

// What is done at once, written out by hand: which bit of the tree is told, what is told, and the state then.
func TestCoreBegunDoneByHand(t *testing.T) {
	start := impl.Cache{
		Sets: [][]impl.Way{
			{wayOf(4, impl.StS, 10, 11), wayOf(0, impl.StE, 20, 21)},
			{wayOf(15, impl.StM, 30, 31), empty()},
		},
		Trees: []int64{1, 0},
	}
	rows := []struct {
		op        impl.Op
		set, way  int64
		then      impl.Way
		tree, say int64
	}{
		{load(8), 0, 0, wayOf(4, impl.StS, 10, 11), 1, 10},
		{load(9), 0, 0, wayOf(4, impl.StS, 10, 11), 1, 11},
		{load(1), 0, 1, wayOf(0, impl.StE, 20, 21), 0, 21},
		{store(0), 0, 1, wayOf(0, impl.StM, 9, 21), 0, 0},
		{store(1), 0, 1, wayOf(0, impl.StM, 20, 9), 0, 0},
		{load(31), 1, 0, wayOf(15, impl.StM, 30, 31), 1, 31},
		{store(30), 1, 0, wayOf(15, impl.StM, 9, 31), 1, 0},
		{impl.Op{Kind: impl.OpAdd, Addr: 30, A: 9990}, 1, 0, wayOf(15, impl.StM, 20, 31), 1, 30},
		{impl.Op{Kind: impl.OpSwap, Addr: 0, A: 5}, 0, 1, wayOf(0, impl.StM, 5, 21), 0, 20},
		{impl.Op{Kind: impl.OpCas, Addr: 0, A: 20, B: 6}, 0, 1, wayOf(0, impl.StM, 6, 21), 0, 20},
		{impl.Op{Kind: impl.OpCas, Addr: 0, A: 21, B: 6}, 0, 1, wayOf(0, impl.StM, 20, 21), 0, 20},
	}
	for _, r := range rows {
		c := behind(idle(start, r.op, load(2)), 77)
		want := coreCopy(c)
		want.Cache = withTree(withWay(start, r.set, r.way, r.then), r.set, r.tree)
		want.At, want.Told = 2, []int64{77, r.say}
		checkBegun(t, c, 3, coreAnswer{want, nil, impl.BgDone})
		checkCoreOk(t, want, true)
	}
}

// What must go first, and what is asked for, written out by hand.
func TestCoreBegunAsksByHand(t *testing.T) {
	for state := int64(impl.StS); state <= impl.StM; state++ {
		w := wayOf(6, state, 61, 62)
		full := withTree(withWay(withWay(emptyStore(2, 2), 0, 0, wayOf(2, impl.StM, 1, 2)), 0, 1, w), 0, 1)
		for _, o := range []impl.Op{load(8), store(9)} {
			c := idle(full, o)
			want := coreCopy(c)
			want.Cache, want.Phase, want.Held = withWay(full, 0, 1, empty()), impl.PhEvict, w
			m := impl.Msg{Road: 0, From: 2, To: 4, Kind: impl.MsPut, Line: 6}
			if state != impl.StS {
				m.Data, m.Flag = []int64{61, 62}, 1
			}
			checkBegun(t, c, 2, coreAnswer{want, []impl.Msg{m}, impl.BgEvict})
			checkCoreOk(t, want, true)
		}
	}
	rows := []struct {
		op   impl.Op
		kind int64
		line int64
	}{
		{load(0), impl.MsRead, 0}, {load(31), impl.MsRead, 15}, {store(0), impl.MsWrite, 0}, {store(15), impl.MsWrite, 7},
		{impl.Op{Kind: impl.OpAdd, Addr: 3}, impl.MsWrite, 1}, {impl.Op{Kind: impl.OpSwap, Addr: 30}, impl.MsWrite, 15}, {impl.Op{Kind: impl.OpCas, Addr: 1, A: 1}, impl.MsWrite, 0},
	}
	for _, r := range rows {
		shared := withWay(emptyStore(1, 1), 0, 0, wayOf(r.line, impl.StS, 1, 2))
		for _, c := range []impl.Core{idle(emptyStore(1, 1), r.op), behind(idle(shared, r.op), 5)} {
			if r.kind == impl.MsRead && c.At == 1 {
				continue
			}
			want := coreCopy(c)
			want.Phase = impl.PhWait
			checkBegun(t, c, 0, coreAnswer{want, []impl.Msg{{From: 0, To: 4, Kind: r.kind, Line: r.line}}, impl.BgAsk})
		}
	}
}

// A write of a line that is there as StS asks at once, though its Set is full: the line has a place.
func TestCoreBegunWritesWhatItReads(t *testing.T) {
	for sets, ways := range everySize {
		for set := range sets {
			for way := range ways {
				full := fullStore(sets, ways)
				full.Sets[set][way].State = impl.StS
				line := full.Sets[set][way].Line
				c := idle(full, store(2*line+1))
				want := coreCopy(c)
				want.Phase = impl.PhWait
				checkBegun(t, c, 1, coreAnswer{want, []impl.Msg{{From: 1, To: 4, Kind: impl.MsWrite, Line: line}}, impl.BgAsk})
			}
		}
	}
}

// Every line, in every state it can be in, with every Kind of op and every tree.
func TestCoreBegunOfEveryLine(t *testing.T) {
	seen := map[int64]int{}
	for sets, ways := range everySize {
		for set := range sets {
			for _, r := range rowsOfWays(ways) {
				for i, start := range []impl.Cache{halfStore(sets, ways), fullStore(sets, ways)} {
					start = withTree(start, set, r.tree)
					for _, line := range linesOfSet(sets, set) {
						for j, o := range manyOps(5) {
							o.Addr = 2*line + int64(i+j)%2
							got := checkBegins(t, behind(idle(start, o), 3), line%4)
							seen[got.code]++
						}
					}
				}
			}
			stopIfFailed(t)
		}
	}
	if seen[1] == 0 || seen[2] == 0 || seen[3] == 0 || len(seen) != 3 {
		t.Fatalf("looked at %v", seen)
	}
}

// Every op of the tests of chapter 8, done to lines of all states.
func TestCoreBegunOfEveryOp(t *testing.T) {
	for _, o := range someOps {
		for state := int64(impl.StS); state <= impl.StM; state++ {
			for _, word := range []int64{0, 5000, 9999} {
				c := idle(withWay(emptyStore(1, 2), 0, 1, wayOf(o.Addr/2, state, word, word)), o)
				want := begins(c, 0)
				core, msgs, code := impl.Begun(c, 0)
				if got := (coreAnswer{core, msgs, code}); !got.same(want) {
					t.Fatalf("Begun(%+v, 0) = %+v, want %+v", c, got, want)
				}
			}
		}
	}
}

func TestCoreBegunOfNothingToDo(t *testing.T) {
	count := 0
	for c := range someCores {
		got := checkBegins(t, c, 1)
		if c.Phase != impl.PhIdle || c.At == int64(len(c.Program)) {
			count++
			if !got.same(asWas(c)) {
				t.Errorf("Begun(%+v) does something", c)
			}
		}
	}
	if count == 0 {
		t.Fatal("looked at none")
	}
}

// Every Kind of letter, right and far away, of every line, of every one of the cores.
func TestCoreGotEveryKind(t *testing.T) {
	kinds := []int64{0, 1, 2, 3, 4, 5, 6, 7, 8, 9, 10, 11, 12, 13, 14, 15, 16, -6, -7, -11, -12, 1<<32 + 6, 1<<32 + 11, 256 + 7, 256 + 12, math.MinInt64, math.MaxInt64}
	seen := map[int64]int{}
	for c := range someCores {
		for line := int64(-1); line <= 16; line++ {
			for _, kind := range kinds {
				m := impl.Msg{Road: 1, From: 4, To: 3, Kind: kind, Line: line, Data: []int64{71, 72}, Flag: 3}
				want := gets(c, 3, m)
				core, msgs, code := impl.Got(c, 3, m)
				if got := (coreAnswer{core, msgs, code}); !got.same(want) {
					t.Errorf("Got(%+v, 3, %+v) = %+v, want %+v", c, m, got, want)
				}
				checkStaysRight(t, c, want)
				seen[want.code]++
			}
			stopIfFailed(t)
		}
	}
	if seen[0] == 0 || seen[1] == 0 || seen[2] == 0 {
		t.Fatalf("looked at %v", seen)
	}
}

// What is asked of a line in the store, by each of its places, states and trees; the trees stay as they are.
func TestCoreGotAskedOfTheStore(t *testing.T) {
	for sets, ways := range everySize {
		for set := range sets {
			for way := range ways {
				for _, tree := range rowsOfWays(ways) {
					for _, r := range answersOfStore[2:] {
						start := withTree(fullStore(sets, ways), set, tree.tree)
						start.Sets[set][way].State = r.state
						w := start.Sets[set][way]
						left := wayOf(w.Line, r.left, w.Data...)
						if r.left == impl.StI {
							left = empty()
						}
						for _, c := range []impl.Core{idle(start, load(2)), behind(waiting(start, load(2*w.Line)), 4)} {
							want := coreCopy(c)
							want.Cache = withWay(start, set, way, left)
							checkGot(t, c, 1, impl.Msg{Kind: r.kind, Line: w.Line}, coreAnswer{want, r.letter(1, w.Line, w.Data), impl.GtDone})
							checkCoreOk(t, want, true)
						}
					}
				}
			}
			stopIfFailed(t)
		}
	}
}

// What is asked of a line that is Held, or was let go, or is not there; other lines stay.
func TestCoreGotAskedOfWhatIsHeld(t *testing.T) {
	for line := range int64(16) {
		for _, r := range answersOfHeld {
			start := withWay(emptyStore(1, 2), 0, 1, wayOf((line+1)%16, impl.StM, 1, 2))
			held := wayOf(line, r.state, 41, 42)
			if r.state == impl.StI {
				held.Data = nil
			}
			c := evicting(start, held, load(2*line))
			want := coreCopy(c)
			if r.left == impl.StI {
				want.Held = wayOf(line, impl.StI)
			}
			checkGot(t, c, 0, impl.Msg{Kind: r.kind, Line: line}, coreAnswer{want, r.letter(0, line, held.Data), impl.GtDone})
			checkCoreOk(t, want, true)
			other := (line + 2) % 16
			none := impl.Msg{Road: 2, From: 0, To: 4, Kind: impl.MsAck, Line: other, Flag: 1}
			checkGot(t, c, 0, impl.Msg{Kind: r.kind, Line: other}, coreAnswer{c, []impl.Msg{none}, impl.GtDone})
		}
	}
}

// Nothing but Kind and Line matters of what is asked.
func TestCoreGotAskedWhateverElse(t *testing.T) {
	c := evicting(fullStore(2, 2), wayOf(9, impl.StM, 5, 6), load(0))
	for line := range int64(16) {
		for _, kind := range []int64{impl.MsFetch, impl.MsInvalid} {
			for _, far := range farFields {
				checkGets(t, c, 2, impl.Msg{Road: far, From: far, To: far, Kind: kind, Line: line, Data: []int64{far}, Flag: far})
			}
			checkGets(t, c, 2, impl.Msg{Kind: kind, Line: line, Data: []int64{1, 2}, Flag: 2})
		}
		stopIfFailed(t)
	}
	for _, line := range noLineNumbers {
		for _, kind := range []int64{impl.MsFetch, impl.MsInvalid, impl.MsPutAck, impl.MsGrant} {
			for d := range coresWith(fullStore(2, 2)) {
				checkGot(t, d, 2, impl.Msg{Kind: kind, Line: line, Data: []int64{1, 2}, Flag: 3}, asWas(d))
			}
		}
		stopIfFailed(t)
	}
}

func TestCoreGotPutAck(t *testing.T) {
	count := 0
	for c := range someCores {
		for line := int64(-1); line <= 16; line++ {
			got := checkGets(t, c, 0, impl.Msg{Road: 2, From: 4, Kind: impl.MsPutAck, Line: line})
			is := c.Phase == impl.PhEvict && line == c.Held.Line
			if is != (got.code == impl.GtDone) {
				t.Errorf("the line %d that was put: %+v of %+v", line, got, c)
			}
			if is {
				count++
			}
		}
		stopIfFailed(t)
	}
	if count == 0 {
		t.Fatal("looked at none")
	}
}

// grants gives letters for this line: right ones, such as grant too little, and wrong ones.
func grants(line int64) []impl.Msg {
	var list []impl.Msg
	for flag := int64(-1); flag <= 4; flag++ {
		for _, data := range [][]int64{{81, 82}, nil, {81}, {81, 82, 83}, {-1, 82}, {81, 10000}, {0, 9999}} {
			list = append(list, impl.Msg{Kind: impl.MsGrant, Line: line, Data: data, Flag: flag})
		}
	}
	return list
}

func TestCoreGotGrantInEveryPhase(t *testing.T) {
	seen := map[int64]int{}
	for c := range someCores {
		lines := []int64{max(c.Held.Line, 0)}
		if c.At < int64(len(c.Program)) {
			lines = append(lines, c.Program[c.At].Addr/2)
		}
		for _, line := range lines {
			for _, m := range grants(line) {
				seen[checkGets(t, c, 3, m).code]++
			}
		}
		stopIfFailed(t)
	}
	if seen[0] == 0 || seen[2] == 0 || len(seen) != 2 {
		t.Fatalf("looked at %v", seen)
	}
}

func TestCoreGotGrantOfFarFlags(t *testing.T) {
	for c := range fewCores {
		for _, flag := range farStates {
			checkGot(t, c, 0, impl.Msg{Kind: impl.MsGrant, Line: 1, Data: []int64{1, 2}, Flag: flag}, asWas(c))
			checkGot(t, c, 0, impl.Msg{Kind: impl.MsGrant, Line: 15, Data: []int64{1, 2}, Flag: flag}, asWas(c))
		}
		for bad := range noLines {
			checkGot(t, c, 0, impl.Msg{Kind: impl.MsGrant, Line: 1, Data: bad, Flag: impl.StM}, asWas(c))
			checkGot(t, c, 0, impl.Msg{Kind: impl.MsGrant, Line: 15, Data: bad, Flag: impl.StE}, asWas(c))
		}
		stopIfFailed(t)
	}
}

// What is granted goes to the first empty place, or to where the line is as StS; where there is no room nothing is done.
func TestCoreGotGrantOfEveryLine(t *testing.T) {
	seen := map[int64]int{}
	for sets, ways := range everySize {
		for set := range sets {
			for _, r := range rowsOfWays(ways) {
				for i, start := range []impl.Cache{halfStore(sets, ways), fullStore(sets, ways)} {
					start = withTree(start, set, r.tree)
					for _, line := range linesOfSet(sets, set) {
						for j, o := range manyOps(5) {
							o.Addr = 2*line + int64(i+j)%2
							flag := 1 + (line+int64(j))%3
							m := impl.Msg{Road: 2, From: 4, Kind: impl.MsGrant, Line: line, Data: []int64{91, 92}, Flag: flag}
							seen[checkGets(t, behind(waiting(start, o, load(1)), 6), line%4, m).code]++
						}
					}
				}
			}
			stopIfFailed(t)
		}
	}
	if seen[0] == 0 || seen[2] == 0 || len(seen) != 2 {
		t.Fatalf("looked at %v", seen)
	}
}

func TestCoreGotGrantByHand(t *testing.T) {
	start := withTree(withWay(emptyStore(1, 2), 0, 0, wayOf(5, impl.StM, 1, 2)), 0, 1)
	rows := []struct {
		op   impl.Op
		flag int64
		then impl.Way
		say  int64
	}{
		{load(6), impl.StS, wayOf(3, impl.StS, 50, 60), 50},
		{load(7), impl.StE, wayOf(3, impl.StE, 50, 60), 60},
		{load(7), impl.StM, wayOf(3, impl.StM, 50, 60), 60},
		{store(6), impl.StM, wayOf(3, impl.StM, 9, 60), 0},
		{store(7), impl.StE, wayOf(3, impl.StM, 50, 9), 0},
		{impl.Op{Kind: impl.OpAdd, Addr: 6, A: 1}, impl.StM, wayOf(3, impl.StM, 51, 60), 50},
		{impl.Op{Kind: impl.OpSwap, Addr: 7, A: 1}, impl.StM, wayOf(3, impl.StM, 50, 1), 60},
		{impl.Op{Kind: impl.OpCas, Addr: 7, A: 60, B: 2}, impl.StM, wayOf(3, impl.StM, 50, 2), 60},
		{impl.Op{Kind: impl.OpCas, Addr: 7, A: 50, B: 2}, impl.StE, wayOf(3, impl.StM, 50, 60), 60},
	}
	for _, r := range rows {
		c := waiting(start, r.op)
		want := coreCopy(c)
		want.Cache, want.Phase, want.At, want.Told = withTree(withWay(start, 0, 1, r.then), 0, 0), impl.PhIdle, 1, []int64{r.say}
		m := impl.Msg{Road: 2, From: 4, To: 1, Kind: impl.MsGrant, Line: 3, Data: []int64{50, 60}, Flag: r.flag}
		checkGot(t, c, 1, m, coreAnswer{want, []impl.Msg{{Road: 2, From: 1, To: 4, Kind: impl.MsDone, Line: 3}}, impl.GtOp})
		m.Line = 5
		checkGot(t, c, 1, m, asWas(c))
		noRoom := waiting(withWay(start, 0, 1, wayOf(7, impl.StS, 1, 2)), r.op)
		m.Line = 3
		checkGot(t, noRoom, 1, m, asWas(noRoom))
		if r.op.Kind != impl.OpLoad {
			m.Flag = impl.StS
			checkGot(t, c, 1, m, asWas(c))
		}
	}
}

// mixedLetter is some letter that a core may get, told by a number.
func mixedLetter(c impl.Core, n int64) impl.Msg {
	m := impl.Msg{Road: n % 3, From: 4, Kind: []int64{6, 7, 11, 12, 6, 7, 11, 12, 8, 13}[n/8%10], Line: n / 128 % 16, Data: []int64{n % 10000, n / 7}, Flag: 1 + n/32%3}
	switch n / 1024 % 3 {
	case 0:
		m.Line = max(c.Held.Line, 0)
	case 1:
		if c.At < int64(len(c.Program)) {
			m.Line = c.Program[c.At].Addr / 2
		}
	}
	return m
}

// Promise 12: long walks of each size, in which whatever comes comes; the core is looked at behind each step.
func TestCoreLongWalks(t *testing.T) {
	for sets, ways := range everySize {
		n := sets*10 + ways
		seen := map[string]int{}
		for range 40 {
			c, _ := impl.NewCore(sets, ways, mixedProgram(&n))
			for range 120 {
				n = (25173*n + 13849) % 65536
				var got coreAnswer
				if n/4096%3 == 0 {
					got = checkBegins(t, c, n/16%4)
					seen[fmt.Sprint("begun ", got.code)]++
				} else {
					got = checkGets(t, c, n/16%4, mixedLetter(c, n))
					seen[fmt.Sprint("got ", got.code)]++
				}
				stopIfFailed(t)
				c = got.core
			}
		}
		if len(seen) < 6 || seen["begun 2"] == 0 && sets*ways < 8 || seen["got 2"] == 0 {
			t.Fatalf("%d Sets of %d Ways: looked at %v", sets, ways, seen)
		}
	}
}

// mixedProgram has 30 ops, told by the number, which goes on.
func mixedProgram(n *int64) []impl.Op {
	list := manyOps(30)
	for i := range list {
		*n = (25173**n + 13849) % 65536
		list[i].Addr = *n / 64 % 32
		if list[i].Kind != impl.OpLoad {
			list[i].A = *n % 3
		}
	}
	return list
}

// A core whose house grants all at once does its program to its end, and what it tells is what the words were.
func TestCoreAloneTellsWhatIsSo(t *testing.T) {
	for sets, ways := range everySize {
		n := sets + 5*ways
		list := mixedProgram(&n)
		c, _ := impl.NewCore(sets, ways, list)
		memory := make([][]int64, 16)
		for line := range memory {
			memory[line] = []int64{int64(line) % 3, 1}
		}
		words := copied(memory)
		for steps := 0; c.At < 30; steps++ {
			if steps > 200 {
				t.Fatalf("%d Sets of %d Ways: no end is to be seen: %+v", sets, ways, c)
			}
			var msgs []impl.Msg
			c, msgs, _ = impl.Begun(c, 0)
			for _, m := range msgs {
				reply := impl.Msg{Road: 2, From: 4, Line: m.Line, Kind: impl.MsGrant, Data: memory[m.Line], Flag: impl.StE}
				if m.Kind == impl.MsPut {
					copy(memory[m.Line], m.Data)
					reply.Kind = impl.MsPutAck
				}
				c, _, _ = impl.Got(c, 0, reply)
			}
		}
		for i, o := range list {
			then, said := saidBy(o, words[o.Addr/2][o.Addr%2])
			words[o.Addr/2][o.Addr%2] = then
			if c.Told[i] != said {
				t.Errorf("%d Sets of %d Ways: op %d, %+v, told %d, want %d", sets, ways, i, o, c.Told[i], said)
			}
		}
	}
}

// spoilCore writes into all that can be reached of a core, also into the spare room behind each list.
func spoilCore(c impl.Core) {
	spoilStore(c.Cache)
	program := c.Program[:cap(c.Program)]
	for i := range program {
		program[i] = impl.Op{Kind: -8, Addr: -8, A: -8, B: -8}
	}
	spoil(c.Held.Data)
	spoil(c.Told)
}

// checkOwnCore asks, spoils what was answered, and looks at what was given; then asks again, spoils what was given, and looks at what was answered.
func checkOwnCore(t *testing.T, name string, c impl.Core, m impl.Msg, ask func(impl.Core, impl.Msg) coreAnswer) {
	t.Helper()
	given, letter := roomyCore(c), roomyLetter(m)
	was, wasLetter := pictureOfCore(given), pictureOfLetter(letter)
	got := ask(given, letter)
	want := got.copied()
	spoilCore(got.core)
	spoilNet(got.msgs)
	if pictureOfCore(given) != was || pictureOfLetter(letter) != wasLetter {
		t.Errorf("%s of %+v answers with memory of an argument", name, c)
	}
	got = ask(given, letter)
	spoilCore(given)
	spoil(letter.Data)
	if !got.same(want) {
		t.Errorf("%s of %+v: what was answered changes with what was given", name, c)
	}
	checkCoreApart(t, name, c, m, ask)
}

// checkCoreApart spoils one list of an answer after the other, and looks whether the others stay.
func checkCoreApart(t *testing.T, name string, c impl.Core, m impl.Msg, ask func(impl.Core, impl.Msg) coreAnswer) {
	t.Helper()
	got := ask(coreCopy(c), letterCopy(m))
	want := got.copied()
	spoilNet(got.msgs)
	if !sameCore(got.core, want.core) {
		t.Errorf("%s of %+v: a letter shares memory with the core", name, c)
	}
	got = ask(coreCopy(c), letterCopy(m))
	spoil(got.core.Held.Data)
	if !sameStore(got.core.Cache, want.core.Cache) || !sameNet(got.msgs, want.msgs) || !slices.Equal(got.core.Told, want.core.Told) {
		t.Errorf("%s of %+v: what is Held shares memory", name, c)
	}
	got = ask(coreCopy(c), letterCopy(m))
	spoil(got.core.Told)
	if !sameStore(got.core.Cache, want.core.Cache) || !sameNet(got.msgs, want.msgs) || !sameWay(got.core.Held, want.core.Held) {
		t.Errorf("%s of %+v: what was told shares memory", name, c)
	}
	checkListsApart(t, name, func() impl.Cache { return ask(coreCopy(c), letterCopy(m)).core.Cache })
}

func TestCoreAnswersAreNewMemory(t *testing.T) {
	begun := func(c impl.Core, m impl.Msg) coreAnswer {
		core, msgs, code := impl.Begun(c, 1)
		return coreAnswer{core, msgs, code}
	}
	got := func(c impl.Core, m impl.Msg) coreAnswer {
		core, msgs, code := impl.Got(c, 1, m)
		return coreAnswer{core, msgs, code}
	}
	for c := range someCores {
		checkOwnCore(t, "Begun", c, impl.Msg{}, begun)
		for line := int64(0); line <= 15; line += 5 {
			for _, kind := range []int64{1, impl.MsFetch, impl.MsInvalid, impl.MsPutAck, impl.MsGrant} {
				m := impl.Msg{Kind: kind, Line: line, Data: []int64{1, 2}, Flag: impl.StM}
				checkOwnCore(t, "Got", c, m, got)
				m.Line = max(c.Held.Line, 1)
				checkOwnCore(t, "Got", c, m, got)
			}
		}
		stopIfFailed(t)
	}
}
