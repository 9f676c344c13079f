package tests

import (
	"fmt"
	"math"
	"slices"
	"testing"

	"loop.example/g00342/impl"
)

// quietAnswer is all that is asked of a fabric in the end.
type quietAnswer struct {
	flushed     [][]int64
	exact, free bool
}

func (a quietAnswer) same(b quietAnswer) bool {
	return sameLines(a.flushed, b.flushed) && a.exact == b.exact && a.free == b.free
}

// noQuiet is what is answered of a fabric that is not right.
var noQuiet = quietAnswer{}

// flushedBy and the ones below are the chapter's text over again, of a right fabric.
func flushedBy(f impl.Fabric) [][]int64 {
	memory := copied(f.House.Memory)
	for line := range f.Config.Lines {
		for _, c := range f.Cores {
			if w, is := ownBy(c, line); is && (w.State == impl.StE || w.State == impl.StM) {
				memory[line] = slices.Clone(w.Data)
			}
		}
	}
	return memory
}

// whoHas are the cores that have the line in their Caches in one of these States, rising.
func whoHas(f impl.Fabric, line int64, states ...int64) []int64 {
	var list []int64
	for id, c := range f.Cores {
		if w, is := ownBy(c, line); is && slices.Contains(states, w.State) {
			list = append(list, int64(id))
		}
	}
	return list
}

func exactBy(f impl.Fabric) bool {
	if !finishedBy(f) {
		return false
	}
	for line, e := range f.House.Book {
		var owners []int64
		if e.Owner >= 0 {
			owners = []int64{e.Owner}
		}
		if !slices.Equal(whoHas(f, int64(line), impl.StE, impl.StM), owners) || sharersOf(whoHas(f, int64(line), impl.StS)) != e.Sharers {
			return false
		}
	}
	return true
}

func freeBy(f impl.Fabric) bool {
	for _, e := range f.House.Book {
		if e.Busy {
			return false
		}
	}
	for _, c := range f.Cores {
		if c.Phase != 0 || !sameWay(c.Held, empty()) {
			return false
		}
	}
	return finishedBy(f) && !f.Dma.Waits
}

func quietBy(f impl.Fabric) quietAnswer {
	if !fabricRight(f) {
		return noQuiet
	}
	return quietAnswer{flushedBy(f), exactBy(f), freeBy(f)}
}

func quietOf(f impl.Fabric) quietAnswer {
	return quietAnswer{impl.Flushed(f), impl.Exact(f), impl.Free(f)}
}

// checkQuiet holds all three against what is wanted, and that against the text over again.
func checkQuiet(t *testing.T, why string, f impl.Fabric, want quietAnswer) {
	t.Helper()
	if by := quietBy(f); !by.same(want) {
		t.Errorf("%s: by the text over again it is %+v, want %+v: %+v", why, by, want, f)
	}
	given := roomyFabric(f)
	was := pictureOfFabric(given)
	if got := quietOf(given); !got.same(want) {
		t.Errorf("%s: it is %+v, want %+v: %+v", why, got, want, f)
	}
	if pictureOfFabric(given) != was {
		t.Errorf("%s: it was written into: %+v", why, f)
	}
}

func checkFlushed(t *testing.T, why string, f impl.Fabric, want [][]int64) {
	t.Helper()
	checkQuiet(t, why, f, quietAnswer{want, exactBy(f), freeBy(f)})
}

func checkExact(t *testing.T, why string, f impl.Fabric, want bool) {
	t.Helper()
	checkQuiet(t, why, f, quietAnswer{flushedBy(f), want, freeBy(f)})
}

func checkFree(t *testing.T, why string, f impl.Fabric, want bool) {
	t.Helper()
	checkQuiet(t, why, f, quietAnswer{flushedBy(f), exactBy(f), want})
}

// stockOf is a fabric of this layout with nothing to do, and a memory whose words are all unlike.
func stockOf(c impl.Config) impl.Fabric {
	f := newBy(c, make([][]impl.Op, c.Cores), nil)
	f.House.Memory = unlikeWords(int(c.Lines))
	return f
}

// The least and the most of Lines and of Cores, and some between.
var quietLayouts = []impl.Config{{Cores: 1, Sets: 1, Ways: 1, Lines: 1}, {Cores: 4, Sets: 1, Ways: 1, Lines: 1}, {Cores: 2, Sets: 2, Ways: 1, Lines: 2}, threeCores, {Cores: 1, Sets: 1, Ways: 2, Lines: 16}, {Cores: 4, Sets: 4, Ways: 4, Lines: 16}}

// endsOf are the first and the last of this many, each once.
func endsOf(count int64) []int64 { return slices.Compact([]int64{0, count - 1}) }

// spotInQuiet is a layout, one of its lines and one of its cores.
type spotInQuiet struct {
	layout     impl.Config
	line, core int64
}

// quietSpots are the first and the last line with the first and the last core of each layout.
func quietSpots() []spotInQuiet {
	var list []spotInQuiet
	for _, c := range quietLayouts {
		for _, line := range endsOf(c.Lines) {
			for _, core := range endsOf(c.Cores) {
				list = append(list, spotInQuiet{c, line, core})
			}
		}
	}
	return list
}

// Of a new fabric each line is the memory's, and the book is right; it is Finished just where nobody has anything to do.
func TestQuietOfNewFabrics(t *testing.T) {
	for c := range everyLayout {
		bare := newBy(c, make([][]impl.Op, c.Cores), nil)
		if got := quietOf(bare); !got.same(quietAnswer{noughts(c.Lines), true, true}) {
			t.Fatalf("of %+v it is %+v", c, got)
		}
		programs := make([][]impl.Op, c.Cores)
		programs[c.Lines%c.Cores] = opsIn(c.Lines, 1)
		for _, f := range []impl.Fabric{newBy(c, programs, nil), newBy(c, make([][]impl.Op, c.Cores), descsIn(c.Lines, 1)), newBy(c, programs, descsIn(c.Lines, 3))} {
			if got := quietOf(f); !got.same(quietAnswer{noughts(c.Lines), false, false}) {
				t.Fatalf("of %+v it is %+v", f, got)
			}
		}
	}
	for _, c := range quietLayouts {
		checkQuiet(t, "the words are unlike", stockOf(c), quietAnswer{unlikeWords(int(c.Lines)), true, true})
	}
}

// One core has a line: as StE and as StM it is that one's Data, as StS the memory's, at each line by each core; all other lines stay.
func TestQuietFlushedOfOneCore(t *testing.T) {
	for _, c := range quietLayouts {
		for line := range c.Lines {
			for core := range c.Cores {
				for state := int64(impl.StS); state <= impl.StM; state++ {
					f := stockOf(c)
					has(&f, core, wayOf(line, state, 5, 6))
					want := unlikeWords(int(c.Lines))
					if state != impl.StS {
						want[line] = []int64{5, 6}
					}
					checkFlushed(t, "one core has it", f, want)
				}
			}
		}
		stopIfFailed(t)
	}
}

// Each line in each Way of its Set.
func TestQuietFlushedOfEveryPlace(t *testing.T) {
	for sets, ways := range everySize {
		c := impl.Config{Cores: 2, Sets: sets, Ways: ways, Lines: 7}
		for line := range c.Lines {
			for way := range ways {
				for state := int64(impl.StS); state <= impl.StM; state++ {
					f := stockOf(c)
					f.Cores[line%2].Cache.Sets[line%sets][way] = wayOf(line, state, 9999, 0)
					want := unlikeWords(7)
					if state != impl.StS {
						want[line] = []int64{9999, 0}
					}
					checkFlushed(t, "in some Way", f, want)
				}
			}
		}
		stopIfFailed(t)
	}
}

// Several have one line: it is the last one's who has it as StE or StM, whichever of both it is.
func TestQuietFlushedOfSeveralCores(t *testing.T) {
	rows := []struct {
		states []int64
		last   int64
	}{
		{[]int64{2, 2, 0, 0}, 1}, {[]int64{2, 3, 0, 0}, 1}, {[]int64{3, 2, 0, 0}, 1}, {[]int64{3, 3, 0, 0}, 1},
		{[]int64{2, 0, 0, 2}, 3}, {[]int64{3, 0, 0, 2}, 3}, {[]int64{2, 0, 0, 3}, 3}, {[]int64{3, 0, 0, 3}, 3},
		{[]int64{3, 1, 0, 0}, 0}, {[]int64{2, 0, 0, 1}, 0}, {[]int64{1, 3, 1, 1}, 1}, {[]int64{1, 1, 1, 2}, 3}, {[]int64{2, 1, 1, 1}, 0},
		{[]int64{3, 2, 1, 0}, 1}, {[]int64{0, 3, 3, 1}, 2}, {[]int64{2, 3, 2, 3}, 3}, {[]int64{3, 3, 3, 1}, 2},
		{[]int64{1, 1, 1, 1}, -1}, {[]int64{0, 1, 0, 0}, -1}, {[]int64{0, 0, 0, 0}, -1},
	}
	for _, lines := range []int64{1, 2, 5, 16} {
		for _, line := range endsOf(lines) {
			for _, r := range rows {
				f := stockOf(impl.Config{Cores: 4, Sets: 1, Ways: 2, Lines: lines})
				for id, state := range r.states {
					if state != impl.StI {
						has(&f, int64(id), wayOf(line, state, 10+int64(id), 20+int64(id)))
					}
				}
				want := unlikeWords(int(lines))
				if r.last >= 0 {
					want[line] = []int64{10 + r.last, 20 + r.last}
				}
				checkFlushed(t, fmt.Sprint(r.states), f, want)
			}
		}
	}
}

// All lines at once, each core another one's; and all by all.
func TestQuietFlushedOfAllLines(t *testing.T) {
	c := impl.Config{Cores: 4, Sets: 4, Ways: 4, Lines: 16}
	f, all := stockOf(c), stockOf(c)
	want, wantAll := unlikeWords(16), unlikeWords(16)
	for line := range int64(16) {
		state := 1 + line%3
		has(&f, line/4, wayOf(line, state, 100+line, 200+line))
		if state != impl.StS {
			want[line] = []int64{100 + line, 200 + line}
		}
		for id := range int64(4) {
			has(&all, id, wayOf(line, 1+(line+id)%3, 100+line, id))
			if (line+id)%3 != 0 {
				wantAll[line] = []int64{100 + line, id}
			}
		}
	}
	checkFlushed(t, "each core has four", f, want)
	checkFlushed(t, "each core has all", all, wantAll)
}

// What is Held or on its way is in no Cache, what is to be written is not written, and the book is not asked.
func TestQuietFlushedAsksCachesAlone(t *testing.T) {
	for line := range int64(5) {
		f := stock()
		f.House.Book[line] = owner(1)
		holdsBack(&f, 1, wayOf(line, impl.StM, 5, 6))
		checkFlushed(t, "it is Held", f, unlikeWords(5))
		f = stock()
		f.House.Book[line], f.Net = putting(owner(1), 1, 3, 71, 72), []impl.Msg{dataBy(1, line, 5, 6), putBy(1, line, 7, 8), grantTo(0, line, impl.StM, 5, 6)}
		checkFlushed(t, "it is on its way", f, unlikeWords(5))
		f = stock()
		f.House.Book[line] = owner(2)
		has(&f, 0, wayOf(line, impl.StM, 5, 6))
		checkFlushed(t, "the book says otherwise", f, withLine(unlikeWords(5), int(line), []int64{5, 6}))
		f.Events = []impl.Event{opDone(0, store(2*line), 0), portWrote(line, 3, 7, 8)}
		checkFlushed(t, "the Events say otherwise", f, withLine(unlikeWords(5), int(line), []int64{5, 6}))
	}
}

func TestQuietMidwayByHand(t *testing.T) {
	checkQuiet(t, "amidst its work", mixedFabric(), quietAnswer{[][]int64{{1000, 1007}, {1020, 1027}, {1040, 1047}, {8, 9}, {1080, 1087}}, false, false})
}

// A line goes from one that writes it to one that reads it, and back to the memory: each step by hand.
func TestQuietStepsByHand(t *testing.T) {
	c := impl.Config{Cores: 2, Sets: 1, Ways: 1, Lines: 2}
	f, _ := impl.NewFabric(c, [][]impl.Op{{{Kind: impl.OpStore, Addr: 3, A: 5}, load(0)}, {load(2)}}, nil)
	steps := []struct {
		what   string
		action int64
		words  []int64
		end    bool
	}{
		{"core 0 asks", 0, []int64{0, 0}, false},
		{"the house grants", 3, []int64{0, 0}, false},
		{"core 0 writes", 3, []int64{0, 5}, false},
		{"the house hears of it", 3, []int64{0, 5}, false},
		{"core 0 gives it back", 0, []int64{0, 0}, false},
		{"the house takes it back", 3, []int64{0, 5}, false},
		{"core 0 hears of it", 3, []int64{0, 5}, false},
		{"core 0 asks for line 0", 0, []int64{0, 5}, false},
		{"the house grants that", 3, []int64{0, 5}, false},
		{"core 0 reads line 0", 3, []int64{0, 5}, false},
		{"the house hears of that", 3, []int64{0, 5}, false},
		{"core 1 asks", 1, []int64{0, 5}, false},
		{"the house grants it", 3, []int64{0, 5}, false},
		{"core 1 reads: only a letter is on its way", 3, []int64{0, 5}, false},
		{"the house hears of it too", 3, []int64{0, 5}, true},
	}
	for _, s := range steps {
		var is bool
		if f, is = impl.Acted(f, s.action); !is {
			t.Fatalf("%s: it is not done: %+v", s.what, f)
		}
		checkQuiet(t, s.what, f, quietAnswer{[][]int64{{0, 0}, s.words}, s.end, s.end})
	}
	played, is := impl.Played(2, f.Events)
	if !is || !sameLines(played, [][]int64{{0, 0}, {0, 5}}) || !slices.Equal(impl.Holds(f.House, 1), []int64{1}) {
		t.Errorf("Played made %v, %v, and it is %+v", played, is, f)
	}
}

// What a core has written the memory learns only by Flushed.
func TestQuietAtItsEndByHand(t *testing.T) {
	c := impl.Config{Cores: 2, Sets: 1, Ways: 1, Lines: 2}
	for _, r := range []struct {
		why      string
		programs [][]impl.Op
		list     []impl.Desc
		flushed  [][]int64
		memory   [][]int64
	}{
		{"one writes", [][]impl.Op{{{Kind: impl.OpStore, A: 5}}, nil}, nil, [][]int64{{5, 0}, {0, 0}}, noughts(2)},
		{"one writes the last line", [][]impl.Op{nil, {store(3)}}, nil, [][]int64{{0, 0}, {0, 9}}, noughts(2)},
		{"both write", [][]impl.Op{{store(0)}, {store(3)}}, nil, [][]int64{{9, 0}, {0, 9}}, noughts(2)},
		{"both add", [][]impl.Op{{{Kind: impl.OpAdd, A: 5}, {Kind: impl.OpAdd, Addr: 1, A: 1}}, {{Kind: impl.OpAdd, A: 7}, {Kind: impl.OpAdd, Addr: 1, A: 1}}}, nil, [][]int64{{12, 2}, {0, 0}}, nil},
		{"one reads", [][]impl.Op{{load(0)}, nil}, nil, noughts(2), noughts(2)},
		{"both read", [][]impl.Op{{load(0)}, {load(1)}}, nil, noughts(2), noughts(2)},
		{"the DMA writes", [][]impl.Op{nil, nil}, []impl.Desc{writeOf(1, 3, 5, 6)}, [][]int64{{0, 0}, {5, 6}}, [][]int64{{0, 0}, {5, 6}}},
		{"the DMA writes half of it", [][]impl.Op{nil, nil}, []impl.Desc{writeOf(0, 2, 5, 6), writeOf(0, 1, 7, 8)}, [][]int64{{7, 6}, {0, 0}}, [][]int64{{7, 6}, {0, 0}}},
		{"nobody does anything", [][]impl.Op{nil, nil}, nil, noughts(2), noughts(2)},
	} {
		f, _ := impl.NewFabric(c, r.programs, r.list)
		for seed := range int64(20) {
			end, _ := impl.Ended(f, 3276*seed)
			checkQuiet(t, r.why, end, quietAnswer{r.flushed, true, true})
			if r.memory != nil && !sameLines(end.House.Memory, r.memory) {
				t.Errorf("%s: the memory is %v", r.why, end.House.Memory)
			}
		}
	}
}

// quietTurn is a way to change a fabric about one line and one core, and what Exact is then.
type quietTurn struct {
	why  string
	turn func(f *impl.Fabric, line int64, core int64)
	want bool
}

// ownersInQuiet are of any layout; othersInQuiet take another core too.
func ownersInQuiet() []quietTurn {
	alone := func(state int64) func(f *impl.Fabric, line int64, core int64) {
		return func(f *impl.Fabric, line int64, core int64) { has(f, core, wayOf(line, state, 5, 6)) }
	}
	booked := func(e func(core int64) impl.Entry, turn func(f *impl.Fabric, line int64, core int64)) func(f *impl.Fabric, line int64, core int64) {
		return func(f *impl.Fabric, line int64, core int64) {
			f.House.Book[line] = e(core)
			turn(f, line, core)
		}
	}
	shares := func(core int64) impl.Entry { return sharers(core) }
	nothing := func(f *impl.Fabric, line int64, core int64) {}
	return []quietTurn{
		{"nobody has it", nothing, true},
		{"the Owner has it as StE", booked(owner, alone(impl.StE)), true},
		{"the Owner has it as StM", booked(owner, alone(impl.StM)), true},
		{"the Owner has it as StS", booked(owner, alone(impl.StS)), false},
		{"there is no Owner, one has it as StE", alone(impl.StE), false},
		{"there is no Owner, one has it as StM", alone(impl.StM), false},
		{"there is an Owner, no one has it", booked(owner, nothing), false},
		{"the Owner holds it back as StE", booked(owner, func(f *impl.Fabric, line int64, core int64) { holdsBack(f, core, wayOf(line, impl.StE, 5, 6)) }), false},
		{"the Owner holds it back as StM", booked(owner, func(f *impl.Fabric, line int64, core int64) { holdsBack(f, core, wayOf(line, impl.StM, 5, 6)) }), false},
		{"there is no Owner, one holds it back", func(f *impl.Fabric, line int64, core int64) { holdsBack(f, core, wayOf(line, impl.StM, 5, 6)) }, true},
		{"the one Sharer has it as StS", booked(shares, alone(impl.StS)), true},
		{"the one Sharer has it as StE", booked(shares, alone(impl.StE)), false},
		{"the one Sharer has it as StM", booked(shares, alone(impl.StM)), false},
		{"there are no Sharers, one has it as StS", alone(impl.StS), false},
		{"there is a Sharer, no one has it", booked(shares, nothing), false},
		{"the one Sharer holds it back", booked(shares, func(f *impl.Fabric, line int64, core int64) { holdsBack(f, core, wayOf(line, impl.StS, 5, 6)) }), false},
		{"it is Busy, and the Owner has it", booked(func(core int64) impl.Entry { return busy(owner(core), impl.KdWrite, core, 0) }, alone(impl.StM)), true},
		{"it is Busy, and the Sharer has it", booked(func(core int64) impl.Entry { return busy(sharers(core), impl.KdSnap, 5, 1) }, alone(impl.StS)), true},
		{"it is Busy, and nobody has it", booked(func(core int64) impl.Entry { return putting(nobody(), 1, 3, 5, 6) }, nothing), true},
	}
}

func TestQuietExactOfOwners(t *testing.T) {
	for _, s := range quietSpots() {
		for _, r := range ownersInQuiet() {
			f := stockOf(s.layout)
			r.turn(&f, s.line, s.core)
			checkExact(t, fmt.Sprintf("%s, of line %d, core %d", r.why, s.line, s.core), f, r.want)
		}
		stopIfFailed(t)
	}
}

func othersInQuiet(other int64) []quietTurn {
	haveIt := func(own int64, others int64) func(f *impl.Fabric, line int64, core int64) {
		return func(f *impl.Fabric, line int64, core int64) {
			for id, state := range map[int64]int64{core: own, other: others} {
				if state != impl.StI {
					has(f, id, wayOf(line, state, 5, 6))
				}
			}
		}
	}
	booked := func(e func(core int64) impl.Entry, turn func(f *impl.Fabric, line int64, core int64)) func(f *impl.Fabric, line int64, core int64) {
		return func(f *impl.Fabric, line int64, core int64) {
			f.House.Book[line] = e(core)
			turn(f, line, core)
		}
	}
	both := func(core int64) impl.Entry { return sharers(min(core, other), max(core, other)) }
	one := func(core int64) impl.Entry { return sharers(core) }
	return []quietTurn{
		{"the Owner is one, another one has it as StE", booked(owner, haveIt(0, impl.StE)), false},
		{"the Owner is one, another one has it as StM", booked(owner, haveIt(0, impl.StM)), false},
		{"the Owner has it as StE, another one too", booked(owner, haveIt(impl.StE, impl.StE)), false},
		{"the Owner has it as StM, another one too", booked(owner, haveIt(impl.StM, impl.StM)), false},
		{"the Owner has it as StE, another one as StM", booked(owner, haveIt(impl.StE, impl.StM)), false},
		{"the Owner has it as StM, another one as StS", booked(owner, haveIt(impl.StM, impl.StS)), false},
		{"the Owner has it as StS, another one as StM", booked(owner, haveIt(impl.StS, impl.StM)), false},
		{"the Owner and another one have it as StS", booked(owner, haveIt(impl.StS, impl.StS)), false},
		{"two Sharers have it as StS", booked(both, haveIt(impl.StS, impl.StS)), true},
		{"one Sharer is missing", booked(one, haveIt(impl.StS, impl.StS)), false},
		{"one Sharer is too many", booked(both, haveIt(impl.StS, 0)), false},
		{"the other Sharer is too many", booked(both, haveIt(0, impl.StS)), false},
		{"two Sharers are too many", booked(both, haveIt(0, 0)), false},
		{"two Sharers are missing", haveIt(impl.StS, impl.StS), false},
		{"the Sharer is one, another one has it as StS", booked(one, haveIt(0, impl.StS)), false},
		{"one Sharer has it as StE", booked(both, haveIt(impl.StE, impl.StS)), false},
		{"the other Sharer has it as StM", booked(both, haveIt(impl.StS, impl.StM)), false},
		{"the one Sharer has it as StS, another one as StM", booked(one, haveIt(impl.StS, impl.StM)), false},
		{"both have it as StM, there is no Owner", haveIt(impl.StM, impl.StM), false},
		{"the Owner has it, another one holds it back", booked(owner, func(f *impl.Fabric, line int64, core int64) {
			has(f, core, wayOf(line, impl.StM, 5, 6))
			holdsBack(f, other, wayOf(line, impl.StM, 5, 6))
		}), true},
		{"the Sharer has it, another one holds it back", booked(one, func(f *impl.Fabric, line int64, core int64) {
			has(f, core, wayOf(line, impl.StS, 5, 6))
			holdsBack(f, other, wayOf(line, impl.StS, 5, 6))
		}), true},
	}
}

func TestQuietExactOfTwo(t *testing.T) {
	for _, s := range quietSpots() {
		for other := range s.layout.Cores {
			if other == s.core {
				continue
			}
			for _, r := range othersInQuiet(other) {
				f := stockOf(s.layout)
				r.turn(&f, s.line, s.core)
				checkExact(t, fmt.Sprintf("%s, of line %d, cores %d and %d", r.why, s.line, s.core, other), f, r.want)
			}
		}
		stopIfFailed(t)
	}
}

// Of one to four cores all States that they can have of one line, with every Entry that there can be of it.
func TestQuietExactOfEveryStatesAndEntry(t *testing.T) {
	seen := map[bool]int{}
	for cores := int64(1); cores <= 4; cores++ {
		var entries []impl.Entry
		for core := range cores {
			entries = append(entries, owner(core))
		}
		for set := range int64(1) << cores {
			entries = append(entries, impl.Entry{Owner: noOwner, Sharers: set})
		}
		for states := range everyList(int(cores), 0, 3) {
			f := stockOf(impl.Config{Cores: cores, Sets: 1, Ways: 1, Lines: 3})
			line := (states[0] + cores) % 3
			for id, state := range states {
				if state != impl.StI {
					has(&f, int64(id), wayOf(line, state, 5, 6))
				}
			}
			for _, e := range entries {
				f.House.Book[line] = e
				got, want := quietOf(f), quietBy(f)
				if !got.same(want) || !want.free {
					t.Fatalf("it is %+v, want %+v: %+v", got, want, f)
				}
				seen[want.exact]++
			}
		}
	}
	// One Entry fits where no one or one alone has it, or all that have it read it: 1 of each set of Sharers, and 2 of each Owner.
	if seen[true] != 2+2+4+4+8+6+16+8 {
		t.Errorf("Exact were %v", seen)
	}
}

// The book is right of all lines; then of one line alone it is not.
func TestQuietExactOfOneLineAmongAll(t *testing.T) {
	c := impl.Config{Cores: 4, Sets: 4, Ways: 4, Lines: 16}
	f := stockOf(c)
	for line := range int64(16) {
		if line%3 == 0 {
			has(&f, 0, wayOf(line, impl.StS, 5, 6))
			has(&f, 3, wayOf(line, impl.StS, 5, 6))
			f.House.Book[line] = sharers(0, 3)
			continue
		}
		has(&f, line%4, wayOf(line, 1+line%3, 5, 6))
		f.House.Book[line] = owner(line % 4)
	}
	checkExact(t, "all lines", f, true)
	for line := range int64(16) {
		was := f.House.Book[line]
		for _, e := range []impl.Entry{nobody(), owner(0), owner(1), owner(2), owner(3), sharers(0), sharers(3), sharers(0, 3), sharers(0, 1, 3), sharers(0, 1, 2, 3), sharers(line % 4)} {
			wrong := fabricCopy(f)
			wrong.House.Book[line] = e
			same := e.Owner == was.Owner && e.Sharers == was.Sharers
			checkExact(t, fmt.Sprintf("line %d", line), wrong, same)
		}
		for core := range int64(4) {
			if _, there := ownBy(f.Cores[core], line); there {
				continue
			}
			for state := int64(impl.StS); state <= impl.StM; state++ {
				wrong := fabricCopy(f)
				has(&wrong, core, wayOf(line, state, 5, 6))
				checkExact(t, fmt.Sprintf("core %d has line %d too", core, line), wrong, false)
			}
		}
		stopIfFailed(t)
	}
}

// The Entries of two lines that change places: each has its kind of Holders, but of another line.
func TestQuietExactOfLinesThatChangePlaces(t *testing.T) {
	f := stock()
	has(&f, 0, wayOf(0, impl.StM, 5, 6))
	has(&f, 2, wayOf(4, impl.StE, 5, 6))
	has(&f, 0, wayOf(1, impl.StS, 5, 6))
	has(&f, 1, wayOf(3, impl.StS, 5, 6))
	book := []impl.Entry{owner(0), sharers(0), nobody(), sharers(1), owner(2)}
	for i := range book {
		for j := range book {
			f.House.Book = slices.Clone(book)
			f.House.Book[i], f.House.Book[j] = book[j], book[i]
			checkExact(t, fmt.Sprintf("lines %d and %d", i, j), f, i == j)
		}
	}
}

// notFinished are ways to keep a fabric from being Finished, which change nothing in book and Caches.
func notFinished() []wrongFabric {
	return []wrongFabric{
		{"an Op of core 0 is left", func(f *impl.Fabric) { f.Cores[0].Program = []impl.Op{load(0)} }},
		{"an Op of the last core is left", func(f *impl.Fabric) {
			f.Cores[2] = behindLoads(8, f.Cores[2], 7, 8)
			f.Cores[2].Program = append(f.Cores[2].Program, store(1))
		}},
		{"core 1 waits", func(f *impl.Fabric) { f.Cores[1].Program, f.Cores[1].Phase = []impl.Op{load(0)}, impl.PhWait }},
		{"a read of the DMA is left", func(f *impl.Fabric) { f.Dma.Program = []impl.Desc{readOf(1)} }},
		{"a write of the DMA is left", func(f *impl.Fabric) { f.Dma = dmaAt([]impl.Desc{readOf(2), writeOf(1, 1, 5, 6)}, 1, false) }},
		{"the DMA waits", func(f *impl.Fabric) { f.Dma = dmaAt([]impl.Desc{readOf(2), writeOf(1, 1, 5, 6)}, 1, true) }},
		{"the DMA waits for the first", func(f *impl.Fabric) { f.Dma = dmaAt([]impl.Desc{readOf(2)}, 0, true) }},
		{"MsDone is on its way", func(f *impl.Fabric) { f.Net = []impl.Msg{{Road: 2, From: 1, To: 4, Kind: impl.MsDone, Line: 1}} }},
		{"a letter that nobody hears", func(f *impl.Fabric) { f.Net = idleLetters(1) }},
		{"60 letters", func(f *impl.Fabric) { f.Net = idleLetters(60) }},
	}
}

// fullBook is Finished, its book is right, and all is Free; each kind of Holders is in it.
func fullBook() impl.Fabric {
	f := stock()
	has(&f, 0, wayOf(0, impl.StM, 5, 6))
	has(&f, 2, wayOf(4, impl.StE, 7, 8))
	has(&f, 0, wayOf(1, impl.StS, 1020, 1027))
	has(&f, 2, wayOf(1, impl.StS, 1020, 1027))
	has(&f, 1, wayOf(3, impl.StM, 9, 9))
	f.House.Book = []impl.Entry{owner(0), sharers(0, 2), nobody(), owner(1), owner(2)}
	return f
}

var flushedOfFullBook = [][]int64{{5, 6}, {1020, 1027}, {1040, 1047}, {9, 9}, {7, 8}}

// What is not Finished is neither Exact nor Free, though the book is right and all else is Free.
func TestQuietOfWhatIsNotFinished(t *testing.T) {
	checkQuiet(t, "it is Finished", fullBook(), quietAnswer{flushedOfFullBook, true, true})
	checkQuiet(t, "nobody has anything", stock(), quietAnswer{unlikeWords(5), true, true})
	for _, r := range notFinished() {
		f := fullBook()
		r.turn(&f)
		checkQuiet(t, r.why, f, quietAnswer{flushedOfFullBook, false, false})
		f = stock()
		r.turn(&f)
		checkQuiet(t, r.why, f, quietAnswer{unlikeWords(5), false, false})
	}
}

// What was done already keeps nothing from being Finished.
func TestQuietBehindPrograms(t *testing.T) {
	f := fullBook()
	f.Cores[0] = behindLoads(8, f.Cores[0], 1, 2, 3)
	f.Cores[2] = behindLoads(8, f.Cores[2], 4)
	f.Dma = dmaAt([]impl.Desc{readOf(2), writeOf(1, 1, 5, 6)}, 2, false)
	f.Events = someEvents(200)
	checkQuiet(t, "behind programs", f, quietAnswer{flushedOfFullBook, true, true})
}

// Each Entry that is Busy, of each line; the book is right still.
func TestQuietFreeOfBusy(t *testing.T) {
	for line := range int64(5) {
		for core := range int64(3) {
			for left := range int64(5) {
				list := []impl.Entry{busy(nobody(), impl.KdRead, core, left), busy(nobody(), impl.KdWrite, core, left)}
				if left > 0 {
					list = append(list, busy(nobody(), impl.KdSnap, 5, left), putting(nobody(), left, core, 5, 6))
				}
				for _, e := range list {
					f := fullBook()
					was := f.House.Book[line]
					e.Owner, e.Sharers = was.Owner, was.Sharers
					f.House.Book[line] = e
					checkQuiet(t, "it is Busy", f, quietAnswer{flushedOfFullBook, true, false})
				}
			}
		}
		stopIfFailed(t)
	}
	for _, s := range quietSpots() {
		f := stockOf(s.layout)
		f.House.Book[s.line] = busy(nobody(), impl.KdRead, s.core, 0)
		checkFree(t, "it is Busy", f, false)
	}
}

// A core that is at its program's end may still have something Held, of each State: then it is in PhEvict too.
func TestQuietFreeOfHeld(t *testing.T) {
	for _, s := range quietSpots() {
		for state := range int64(4) {
			f := stockOf(s.layout)
			held := wayOf(s.line, state, 5, 6)
			if state == impl.StI {
				held.Data = nil
			}
			holdsBack(&f, s.core, held)
			checkQuiet(t, "it is Held", f, quietAnswer{unlikeWords(int(s.layout.Lines)), true, false})
			f.Cores[s.core].Program, f.Cores[s.core].At, f.Cores[s.core].Told = []impl.Op{load(0)}, 1, []int64{5}
			checkFree(t, "it is Held behind an Op", f, false)
			// One of both alone is no right core.
			idle, bare := fabricCopy(f), fabricCopy(f)
			idle.Cores[s.core].Phase = impl.PhIdle
			checkQuiet(t, "it is Held while idle", idle, noQuiet)
			bare.Cores[s.core].Held = empty()
			checkQuiet(t, "nothing is Held in PhEvict", bare, noQuiet)
		}
		stopIfFailed(t)
	}
}

// Who waits has an Op left, and so has the DMA a Desc: one that waits behind the end is not right.
func TestQuietFreeOfWhoWaits(t *testing.T) {
	for _, s := range quietSpots() {
		f := stockOf(s.layout)
		f.Cores[s.core].Program, f.Cores[s.core].Phase = []impl.Op{load(2 * s.line)}, impl.PhWait
		checkQuiet(t, "a core waits", f, quietAnswer{unlikeWords(int(s.layout.Lines)), false, false})
		f.Cores[s.core].At, f.Cores[s.core].Told = 1, []int64{5}
		checkQuiet(t, "a core waits behind its end", f, noQuiet)
		f.Cores[s.core].Phase = impl.PhIdle
		checkFree(t, "it is idle behind its end", f, true)
		f = stockOf(s.layout)
		f.Dma = dmaAt([]impl.Desc{readOf(s.line)}, 0, true)
		checkQuiet(t, "the DMA waits", f, quietAnswer{unlikeWords(int(s.layout.Lines)), false, false})
		f.Dma = dmaAt([]impl.Desc{readOf(s.line)}, 1, true)
		checkQuiet(t, "the DMA waits behind its end", f, noQuiet)
		f.Dma.Waits = false
		checkFree(t, "the DMA is at its end", f, true)
	}
	for _, phase := range slices.Concat(farFields, []int64{3, 4}) {
		f := stock()
		f.Cores[2].Phase = phase
		checkQuiet(t, "a Phase that is none", f, noQuiet)
	}
}

// Free does not ask who has what.
func TestQuietFreeAsksNoHolders(t *testing.T) {
	for line := range int64(5) {
		for _, e := range []impl.Entry{nobody(), owner(0), owner(2), sharers(0), sharers(0, 1, 2)} {
			f := fullBook()
			was := f.House.Book[line]
			f.House.Book[line] = e
			checkQuiet(t, "some Entry", f, quietAnswer{flushedOfFullBook, e.Owner == was.Owner && e.Sharers == was.Sharers, true})
		}
	}
}

func TestQuietOfWrongFabrics(t *testing.T) {
	check := func(why string, f impl.Fabric) {
		t.Helper()
		checkQuiet(t, why, f, noQuiet)
		if t.Failed() {
			t.Fatalf("%s", why)
		}
	}
	for _, r := range wrongToRun() {
		f := mixedFabric()
		r.turn(&f)
		check(r.why, f)
	}
	for _, r := range []wrongFabric{
		{"a word of the memory", func(f *impl.Fabric) { f.House.Memory[4][1] = 10000 }},
		{"a word below 0", func(f *impl.Fabric) { f.House.Memory[0][0] = -1 }},
		{"a line too few in the memory", func(f *impl.Fabric) { f.House.Memory = f.House.Memory[:4] }},
		{"a line too many in memory and book", func(f *impl.Fabric) {
			f.House.Memory, f.House.Book = append(f.House.Memory, []int64{0, 0}), append(f.House.Book, nobody())
		}},
		{"an Owner and Sharers", func(f *impl.Fabric) { f.House.Book[0].Sharers = 1 }},
		{"an Owner that there is not", func(f *impl.Fabric) { f.House.Book[2].Owner = 3 }},
		{"a Sharer that there is not", func(f *impl.Fabric) { f.House.Book[2].Sharers = 8 }},
		{"a Kind while not Busy", func(f *impl.Fabric) { f.House.Book[2].Kind = 1 }},
		{"other Lines", func(f *impl.Fabric) { f.Config.Lines = 4 }},
		{"other Sets", func(f *impl.Fabric) { f.Config.Sets = 1 }},
		{"a core too few", func(f *impl.Fabric) { f.Cores = f.Cores[:2] }},
		{"a core too many", func(f *impl.Fabric) { f.Cores = append(f.Cores, f.Cores[1]) }},
		{"the zero Core", func(f *impl.Fabric) { f.Cores[1] = impl.Core{} }},
		{"a State that is none", func(f *impl.Fabric) { f.Cores[0].Cache.Sets[0][0].State = 4 }},
		{"a line in another Set", func(f *impl.Fabric) { f.Cores[0].Cache.Sets[0][1] = wayOf(3, impl.StM, 5, 6) }},
		{"a line twice", func(f *impl.Fabric) { f.Cores[0].Cache.Sets[0][1] = wayOf(0, impl.StS, 5, 6) }},
		{"a line out of the Lines", func(f *impl.Fabric) { f.Cores[0].Cache.Sets[1][1] = wayOf(5, impl.StM, 5, 6) }},
		{"Data that is no line", func(f *impl.Fabric) { f.Cores[0].Cache.Sets[0][0].Data = []int64{5, 6, 7} }},
		{"a tree that is none", func(f *impl.Fabric) { f.Cores[0].Cache.Trees[0] = 2 }},
		{"Told is longer than At", func(f *impl.Fabric) { f.Cores[0].Told = []int64{0} }},
		{"the zero letter", func(f *impl.Fabric) { f.Net = []impl.Msg{{}} }},
		{"an Event that is none", func(f *impl.Fabric) { f.Events = []impl.Event{{}} }},
		{"201 Events", func(f *impl.Fabric) { f.Events = someEvents(201) }},
	} {
		f := fullBook()
		r.turn(&f)
		check(r.why, f)
	}
	for _, bad := range noLayouts {
		f := fullBook()
		f.Config = bad
		check("a layout that is not right", f)
	}
	for i, r := range wrongFabricEvents() {
		f := fullBook()
		f.Events = append(f.Events, r.e)
		if i%10 == 0 {
			check(r.why, f)
		}
	}
}

// checkFarQuiet only asks that it is answered as the text has it.
func checkFarQuiet(t *testing.T, why string, f impl.Fabric) {
	t.Helper()
	checkQuiet(t, why, f, quietBy(f))
	stopIfFailed(t)
}

func TestQuietOfFarNumbers(t *testing.T) {
	for _, n := range slices.Concat(farNumbers, []int64{-2, -1, 3, 4, 5, 15, 16, 17}) {
		checkFarQuiet(t, "all of it", impl.Fabric{Config: impl.Config{Cores: n, Sets: n, Ways: n, Lines: n}, House: impl.House{Memory: [][]int64{{n, n}}, Book: []impl.Entry{{Owner: n, Sharers: n, Busy: true, Kind: n, From: n, Left: n, Mask: n}}}, Dma: impl.Dma{At: n}, Net: []impl.Msg{{Road: n, From: n, To: n, Kind: n, Line: n, Flag: n}}, Events: []impl.Event{{Agent: n, Line: n, Mask: n, Told: n}}})
		for _, turn := range []func(f *impl.Fabric){
			func(f *impl.Fabric) { f.House.Memory[3][0] = n },
			func(f *impl.Fabric) { f.House.Book[2].Owner = n },
			func(f *impl.Fabric) { f.House.Book[1].Sharers = n },
			func(f *impl.Fabric) { f.House.Book[1].From = n },
			func(f *impl.Fabric) { f.House.Book[1] = busy(sharers(0, 2), impl.KdRead, 1, n) },
			func(f *impl.Fabric) { f.Cores[0].Cache.Sets[0][0].Line = n },
			func(f *impl.Fabric) { f.Cores[0].Cache.Sets[0][0].State = n },
			func(f *impl.Fabric) { f.Cores[0].Cache.Sets[0][0].Data[1] = n },
			func(f *impl.Fabric) { f.Cores[0].Cache.Trees[1] = n },
			func(f *impl.Fabric) { f.Cores[1].Held.Line = n },
			func(f *impl.Fabric) { f.Cores[1].At = n },
			func(f *impl.Fabric) { f.Cores[1].Phase = n },
			func(f *impl.Fabric) { f.Dma.At = n },
		} {
			f := fullBook()
			turn(&f)
			checkFarQuiet(t, "one number", f)
		}
	}
}

// Lists that are nil and such as are empty are the same.
func TestQuietOfListsThatAreNil(t *testing.T) {
	bare := fullBook()
	wide := fabricCopy(bare)
	wide.Dma = impl.Dma{Program: []impl.Desc{}, Told: [][]int64{}}
	wide.Net, wide.Events = []impl.Msg{}, []impl.Event{}
	for i := range wide.Cores {
		wide.Cores[i].Program, wide.Cores[i].Told, wide.Cores[i].Held.Data = []impl.Op{}, []int64{}, []int64{}
		wide.Cores[i].Cache.Sets[0][1].Data = []int64{}
	}
	for i := range wide.House.Book {
		wide.House.Book[i].Data = []int64{}
	}
	for _, f := range []impl.Fabric{bare, wide} {
		if got := quietOf(f); !got.same(quietAnswer{flushedOfFullBook, true, true}) {
			t.Errorf("of %+v it is %+v", f, got)
		}
	}
	for _, f := range []impl.Fabric{{}, {Cores: []impl.Core{}, Net: []impl.Msg{}, Events: []impl.Event{}}, {House: impl.House{Memory: [][]int64{}, Book: []impl.Entry{}}}, {Config: threeCores}, {Config: threeCores, House: impl.House{Memory: make([][]int64, 5), Book: make([]impl.Entry, 5)}, Cores: make([]impl.Core, 3)}} {
		if got := quietOf(f); !got.same(noQuiet) {
			t.Errorf("of %+v it is %+v", f, got)
		}
	}
}

// broughtToEnd is the fabric with all programs at their end, and no letters; what is Busy and who holds what stays.
func broughtToEnd(f impl.Fabric) impl.Fabric {
	f = fabricCopy(f)
	for i := range f.Cores {
		c := &f.Cores[i]
		for int(c.At) < len(c.Program) {
			c.At, c.Told = c.At+1, append(c.Told, 7)
		}
		if c.Phase == impl.PhWait {
			c.Phase = impl.PhIdle
		}
	}
	f.Dma = dmaAt(f.Dma.Program, len(f.Dma.Program), false)
	f.Net = nil
	return f
}

// bookedRight is the fabric with the book of what the Caches have, where that is one kind of Holders.
func bookedRight(f impl.Fabric) impl.Fabric {
	f = fabricCopy(f)
	for line := range f.House.Book {
		alone, shared := whoHas(f, int64(line), impl.StE, impl.StM), whoHas(f, int64(line), impl.StS)
		if len(alone) == 1 {
			f.House.Book[line].Owner, f.House.Book[line].Sharers = alone[0], 0
		} else {
			f.House.Book[line].Owner, f.House.Book[line].Sharers = noOwner, sharersOf(shared)
		}
	}
	return f
}

// released is the fabric with nothing Busy and nobody on the way to give something back.
func released(f impl.Fabric) impl.Fabric {
	f = fabricCopy(f)
	for line, e := range f.House.Book {
		f.House.Book[line] = impl.Entry{Owner: e.Owner, Sharers: e.Sharers}
	}
	for i := range f.Cores {
		f.Cores[i].Phase, f.Cores[i].Held = impl.PhIdle, empty()
	}
	return f
}

// quietTally is how often they were Exact, and how often Free.
type quietTally struct{ exact, free map[bool]int }

// check is of a right fabric, by the text over again.
func (q quietTally) check(t *testing.T, why string, f impl.Fabric) {
	t.Helper()
	want := quietBy(f)
	if !fabricRight(f) {
		t.Fatalf("%s: it is not right: %+v", why, f)
	}
	checkQuiet(t, why, f, want)
	q.exact[want.exact]++
	q.free[want.free]++
}

func (q quietTally) atLeast(t *testing.T, count int) {
	t.Helper()
	for _, is := range []bool{true, false} {
		if q.exact[is] < count || q.free[is] < count {
			t.Errorf("Exact were %v, and Free %v", q.exact, q.free)
		}
	}
}

// Of any right fabric all is as the text over again has it, also of such as no new one comes to.
func TestQuietOfAnyRightFabric(t *testing.T) {
	d := &dice{51}
	tally := quietTally{map[bool]int{}, map[bool]int{}}
	for range 300 {
		f := d.anyFabric()
		if d.roll(3) == 0 {
			f.Cores = f.Cores[:1]
			f = onlyCore(f)
		}
		checkQuiet(t, "any right one", f, quietBy(f))
		end := broughtToEnd(f)
		for _, one := range []impl.Fabric{end, bookedRight(end), released(end), bookedRight(released(end))} {
			tally.check(t, "any right one, at its end", one)
		}
		stopIfFailed(t)
	}
	tally.atLeast(t, 100)
}

// checkQuietEnd is promise 19 of one fabric that was new once and is at its end: the book is Exact, all is Free, and Flushed is what Played made.
func checkQuietEnd(t *testing.T, f impl.Fabric) {
	t.Helper()
	if len(impl.Enabled(f)) != 0 || !impl.Finished(f) {
		t.Fatalf("it is not at its end: %+v", f)
	}
	played, is := impl.Played(f.Config.Lines, f.Events)
	if got := quietOf(f); !is || !got.same(quietAnswer{played, true, true}) || !got.same(quietBy(f)) {
		t.Fatalf("it is %+v, and Played made %v, %v: %+v", got, played, is, f)
	}
	for line := range f.Config.Lines {
		if truth := impl.TruthOf(f, line); !slices.Equal(truth, played[line]) {
			t.Fatalf("line %d is %v in truth, and %v flushed: %+v", line, truth, played[line], f)
		}
	}
}

// bookTells counts what the book and the Caches have at the end: it shows that a walk comes to more than one kind of end.
func bookTells(f impl.Fabric, seen map[string]int) {
	for line, e := range f.House.Book {
		for kind, is := range map[string]bool{"nobody": e.Owner == noOwner && e.Sharers == 0, "shared by several": len(whoHas(f, int64(line), impl.StS)) > 1, "StE": len(whoHas(f, int64(line), impl.StE)) > 0, "StM": len(whoHas(f, int64(line), impl.StM)) > 0} {
			if is {
				seen[kind]++
			}
		}
		if !slices.Equal(flushedBy(f)[line], f.House.Memory[line]) {
			seen["not in the memory yet"]++
		}
	}
}

// checkTells asks for some ends of each kind.
func checkTells(t *testing.T, seen map[string]int) {
	t.Helper()
	for _, kind := range []string{"nobody", "shared by several", "StE", "StM", "not in the memory yet"} {
		if seen[kind] < 5 {
			t.Errorf("in the end there were %v", seen)
		}
	}
}

// walksToQuiet goes by the picker from a new fabric to its end; behind each step all is as the text over again has it.
func walksToQuiet(t *testing.T, f impl.Fabric, p picker, seen map[string]int) {
	t.Helper()
	for {
		if got, want := quietOf(f), quietBy(f); !got.same(want) {
			t.Fatalf("%s: it is %+v, want %+v: %+v", p.name, got, want, f)
		}
		enabled := impl.Enabled(f)
		if len(enabled) == 0 {
			checkQuietEnd(t, f)
			bookTells(f, seen)
			return
		}
		if impl.Exact(f) || impl.Free(f) {
			t.Fatalf("%s: midway it is Exact or Free: %+v", p.name, f)
		}
		var is bool
		if f, is = impl.Picked(f, p.pick(f, enabled)); !is {
			t.Fatalf("%s: nothing is picked: %+v", p.name, f)
		}
	}
}

// Promise 19: in the end the book is right, whatever is picked.
func TestQuietLongWalks(t *testing.T) {
	d := &dice{52}
	seen := map[string]int{}
	for i := range 60 {
		f := d.newFabric(t, 1+int64(i%6), 12)
		list := pickers(d)
		for _, p := range []picker{list[0], list[1], list[i%len(list)]} {
			walksToQuiet(t, f, p, seen)
		}
	}
	checkTells(t, seen)
}

// Small stores and few lines: all want the same ones, and let go of them again and again.
func TestQuietLongWalksAboutFewLines(t *testing.T) {
	d := &dice{53}
	seen := map[string]int{}
	for cores := int64(1); cores <= 4; cores++ {
		for lines := int64(1); lines <= 3; lines++ {
			c := impl.Config{Cores: cores, Sets: 1, Ways: 1, Lines: lines}
			var programs [][]impl.Op
			for range cores {
				programs = append(programs, d.program(lines, 12))
			}
			f, _ := impl.NewFabric(c, programs, d.descs(lines, 8))
			for _, p := range pickers(d) {
				walksToQuiet(t, f, p, seen)
			}
		}
	}
}

// In the end all read the same lines.
func TestQuietLongWalksToReaders(t *testing.T) {
	d := &dice{57}
	seen := map[string]int{}
	for cores := int64(2); cores <= 4; cores++ {
		c := impl.Config{Cores: cores, Sets: 1, Ways: 2, Lines: 3}
		var programs [][]impl.Op
		for range cores {
			programs = append(programs, append(d.program(3, 6), load(0), load(5)))
		}
		f, _ := impl.NewFabric(c, programs, d.descs(3, 3))
		for _, p := range pickers(d) {
			walksToQuiet(t, f, p, seen)
		}
	}
	if seen["shared by several"] < 20 {
		t.Errorf("in the end there were %v", seen)
	}
}

// The most that a new fabric can have, and many seeds of smaller ones.
func TestQuietEndsOfSeeds(t *testing.T) {
	d := &dice{54}
	for _, c := range []impl.Config{{Cores: 4, Sets: 1, Ways: 1, Lines: 1}, {Cores: 4, Sets: 1, Ways: 1, Lines: 16}, {Cores: 4, Sets: 4, Ways: 4, Lines: 16}, {Cores: 1, Sets: 2, Ways: 2, Lines: 16}} {
		end, _ := impl.Ended(greatFabric(c), d.roll(65536))
		checkQuietEnd(t, end)
	}
	for range 150 {
		f := d.newFabric(t, 1+d.roll(16), 6)
		for _, seed := range []int64{0, 65535, d.roll(65536)} {
			end, _ := impl.Ended(f, seed)
			checkQuietEnd(t, end)
		}
	}
}

// endsOfAll goes to every end that can come of a fabric; seen has what was looked at.
func endsOfAll(t *testing.T, f impl.Fabric, seen map[string]bool, ends map[string]int) {
	t.Helper()
	key := valueOf(f) + fmt.Sprint(f.Events)
	if seen[key] {
		return
	}
	seen[key] = true
	enabled := impl.Enabled(f)
	if len(enabled) == 0 {
		checkQuietEnd(t, f)
		bookTells(f, ends)
	} else if impl.Exact(f) || impl.Free(f) {
		t.Fatalf("midway it is Exact or Free: %+v", f)
	}
	for n := range enabled {
		then, _ := impl.Picked(f, int64(n))
		endsOfAll(t, then, seen, ends)
	}
}

// Promise 19 of some small fabrics, by each pick that there can be.
func TestQuietByEachPick(t *testing.T) {
	two := impl.Config{Cores: 2, Sets: 1, Ways: 1, Lines: 2}
	three := impl.Config{Cores: 3, Sets: 1, Ways: 1, Lines: 1}
	add := func(addr int64, a int64) impl.Op { return impl.Op{Kind: impl.OpAdd, Addr: addr, A: a} }
	ends := map[string]int{}
	for _, r := range []struct {
		c        impl.Config
		programs [][]impl.Op
		list     []impl.Desc
	}{
		{two, [][]impl.Op{{add(0, 1), load(2)}, {add(0, 3), load(1)}}, nil},
		{two, [][]impl.Op{{add(0, 1)}, {load(0), add(1, 3)}}, []impl.Desc{writeOf(0, 1, 5, 6)}},
		{two, [][]impl.Op{{add(0, 1), load(3)}, {add(1, 4)}}, []impl.Desc{readOf(0)}},
		{two, [][]impl.Op{{load(0), load(2)}, {load(2)}}, []impl.Desc{writeOf(1, 2, 5, 6)}},
		{three, [][]impl.Op{{load(0)}, {load(1)}, {load(0)}}, nil},
	} {
		f, code := impl.NewFabric(r.c, r.programs, r.list)
		if code != impl.PgOk {
			t.Fatalf("it is refused by %d", code)
		}
		endsOfAll(t, f, map[string]bool{}, ends)
	}
	checkTells(t, ends)
}

// At an end that a new fabric came to, one thing is changed: just what the text over again calls so is Exact, and Free.
func TestQuietOfShakenEnds(t *testing.T) {
	d := &dice{55}
	tally := quietTally{map[bool]int{}, map[bool]int{}}
	for range 200 {
		f := d.newFabric(t, 5, 6)
		end, _ := impl.Ended(f, d.roll(65536))
		for range 6 {
			shaken := fabricCopy(end)
			line := d.roll(f.Config.Lines)
			switch d.roll(4) {
			case 0:
				shaken.House.Book[line] = d.anyEntry(f.Config.Cores)
			case 1:
				c := &shaken.Cores[d.roll(f.Config.Cores)]
				for _, w := range c.Cache.Sets[line%f.Config.Sets] {
					if w.Line == line {
						c.Cache, _ = impl.Filled(c.Cache, wayOf(line, 1+d.roll(3), d.words()...))
					}
				}
			case 2:
				c := &shaken.Cores[d.roll(f.Config.Cores)]
				if w, is := ownBy(*c, line); is {
					c.Cache, _ = impl.Dropped(c.Cache, line)
					c.Phase, c.Held = impl.PhEvict, w
				}
			default:
				shaken.Cores[d.roll(f.Config.Cores)].Cache = d.anyCore(f.Config).Cache
			}
			tally.check(t, "shaken", shaken)
		}
		stopIfFailed(t)
	}
	tally.atLeast(t, 50)
}

// What Flushed answers shares nothing with the fabric, nor any two lists of it with each other.
func TestQuietAnswersAreNewMemory(t *testing.T) {
	d := &dice{56}
	ended, _ := impl.Ended(eventfulFabric(4), 99)
	list := []impl.Fabric{stock(), fullBook(), mixedFabric(), eventfulFabric(3), ended, {}}
	for range 40 {
		list = append(list, d.anyFabric(), broughtToEnd(d.anyFabric()))
	}
	for _, f := range list {
		given := roomyFabric(f)
		was := pictureOfFabric(given)
		memory, again := impl.Flushed(given), impl.Flushed(given)
		checkRoomsApart(t, "Flushed", [][][]int64{memory, again}, given)
		checkLinesApart(t, "Flushed", again)
		spoilMemory(again)
		if pictureOfFabric(given) != was {
			t.Fatalf("Flushed answers with memory of its argument: %+v", f)
		}
		spoilFabric(given)
		if !sameLines(memory, quietBy(f).flushed) {
			t.Fatalf("what Flushed answered changes with what was given: %+v", f)
		}
	}
}

// What is given may share memory, all with all: what is answered does not.
func TestQuietOfArgumentsThatShare(t *testing.T) {
	one, other := []int64{3, 1}, []int64{4, 2}
	core := idle(emptyStore(2, 2))
	core.Cache.Sets[0][0] = impl.Way{Line: 2, State: impl.StM, Data: other}
	core.Cache.Sets[0][1] = impl.Way{Line: 4, State: impl.StE, Data: other}
	core.Cache.Sets[1][0] = impl.Way{Line: 1, State: impl.StS, Data: other}
	f := impl.Fabric{
		Config: threeCores,
		House:  impl.House{Memory: [][]int64{one, one, one, one, one}, Book: []impl.Entry{nobody(), sharers(0, 1, 2), nobody(), nobody(), nobody()}},
		Cores:  []impl.Core{core, core, core},
		Events: []impl.Event{{Agent: 5, Line: 1, Data: one}},
	}
	memory := impl.Flushed(f)
	if !sameLines(memory, [][]int64{{3, 1}, {3, 1}, {4, 2}, {3, 1}, {4, 2}}) || impl.Exact(f) || !impl.Free(f) {
		t.Errorf("it is %+v", quietOf(f))
	}
	checkRoomsApart(t, "Flushed", memory, f, one, other)
	f.Cores[1], f.Cores[2] = idle(emptyStore(2, 2)), idle(emptyStore(2, 2))
	f.House.Book = []impl.Entry{nobody(), sharers(0), owner(0), nobody(), owner(0)}
	if !impl.Exact(f) {
		t.Errorf("it is not Exact: %+v", f)
	}
	if !slices.Equal(one, []int64{3, 1}) || !slices.Equal(other, []int64{4, 2}) {
		t.Errorf("it was written into: %v, %v", one, other)
	}
}

// One fabric may be asked many times: it stays as it was, and each time it answers the same.
func TestQuietStaysWhatItWas(t *testing.T) {
	ended, _ := impl.Ended(eventfulFabric(4), 1234)
	for _, f := range []impl.Fabric{fullBook(), mixedFabric(), ended} {
		given := roomyFabric(f)
		was := pictureOfFabric(given)
		want := quietBy(f)
		for range 50 {
			if !quietOf(given).same(want) || pictureOfFabric(given) != was {
				t.Fatalf("it is not the same each time: %+v", f)
			}
		}
	}
	if far := (impl.Fabric{Config: impl.Config{Cores: math.MaxInt64}}); !quietOf(far).same(noQuiet) {
		t.Errorf("of far Cores it is %+v", quietOf(far))
	}
}
