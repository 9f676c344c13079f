package tests

import (
	"fmt"
	"math"
	"slices"
	"testing"

	"loop.example/g00342/impl"
)

// ownBy and the ones below are the chapter's text over again, of a right fabric and a line that it has.
func ownBy(c impl.Core, line int64) (impl.Way, bool) {
	for _, set := range c.Cache.Sets {
		for _, w := range set {
			if w.Line == line {
				return w, true
			}
		}
	}
	return impl.Way{}, false
}

func statesBy(f impl.Fabric, line int64) []int64 {
	var states []int64
	for _, c := range f.Cores {
		w, _ := ownBy(c, line)
		states = append(states, w.State)
	}
	return states
}

func coherentBy(f impl.Fabric) bool {
	for line := range f.Config.Lines {
		if !byPairs(statesBy(f, line)) {
			return false
		}
	}
	return true
}

// The ways by which the truth is told, in their order.
const (
	byStE = iota
	byStM
	byHeld
	byData
	byPut
	byMemory
)

// truthBy tells the truth, and by which way.
func truthBy(f impl.Fabric, line int64) ([]int64, int) {
	for _, c := range f.Cores {
		if w, is := ownBy(c, line); is && w.State >= impl.StE {
			return w.Data, map[int64]int{impl.StE: byStE, impl.StM: byStM}[w.State]
		}
	}
	for id, c := range f.Cores {
		if f.House.Book[line].Owner == int64(id) && c.Held.Line == line && c.Held.State >= impl.StE {
			return c.Held.Data, byHeld
		}
	}
	for _, m := range f.Net {
		way, is := map[int64]int{impl.MsData: byData, impl.MsPut: byPut}[m.Kind]
		if is && m.Line == line && len(m.Data) == 2 && m.From == f.House.Book[line].Owner {
			return m.Data, way
		}
	}
	return f.House.Memory[line], byMemory
}

func freshBy(f impl.Fabric) bool {
	for line := range f.Config.Lines {
		truth, _ := truthBy(f, line)
		for _, c := range f.Cores {
			if w, is := ownBy(c, line); is && !slices.Equal(w.Data, truth) {
				return false
			}
		}
	}
	return true
}

func checkStatesOf(t *testing.T, f impl.Fabric, line int64, want ...int64) {
	t.Helper()
	given := roomyFabric(f)
	was := pictureOfFabric(given)
	if got := impl.StatesOf(given, line); !slices.Equal(got, want) {
		t.Errorf("StatesOf(%+v, %d) = %v, want %v", f, line, got, want)
	}
	if pictureOfFabric(given) != was {
		t.Errorf("StatesOf(%+v, %d) wrote into its argument", f, line)
	}
}

func checkTruthOf(t *testing.T, f impl.Fabric, line int64, want ...int64) {
	t.Helper()
	given := roomyFabric(f)
	was := pictureOfFabric(given)
	if got := impl.TruthOf(given, line); !slices.Equal(got, want) {
		t.Errorf("TruthOf(%+v, %d) = %v, want %v", f, line, got, want)
	}
	if pictureOfFabric(given) != was {
		t.Errorf("TruthOf(%+v, %d) wrote into its argument", f, line)
	}
}

// checkLooks asks whether it is Coherent, and whether it is Fresh.
func checkLooks(t *testing.T, f impl.Fabric, coherent bool, fresh bool) {
	t.Helper()
	given := roomyFabric(f)
	was := pictureOfFabric(given)
	if got := impl.Coherent(given); got != coherent {
		t.Errorf("Coherent(%+v) = %v", f, got)
	}
	if got := impl.Fresh(given); got != fresh {
		t.Errorf("Fresh(%+v) = %v", f, got)
	}
	if pictureOfFabric(given) != was {
		t.Errorf("Coherent or Fresh wrote into its argument: %+v", f)
	}
}

// linesBeside are out of range, whatever fabric it is.
var linesBeside = slices.Concat(noLineNumbers, farNumbers, []int64{-16, -5, -2, -1, 16, 17, 32})

// checkTruths holds all answers about a right fabric against the text over again. It hands back by which way the truth of each line is told.
func checkTruths(t *testing.T, f impl.Fabric) []int {
	t.Helper()
	given := roomyFabric(f)
	was := pictureOfFabric(given)
	var ways []int
	for line := -f.Config.Lines; line <= 2*f.Config.Lines; line++ {
		var states, truth []int64
		if line >= 0 && line < f.Config.Lines {
			var way int
			states = statesBy(f, line)
			truth, way = truthBy(f, line)
			ways = append(ways, way)
		}
		if got := impl.StatesOf(given, line); !slices.Equal(got, states) {
			t.Errorf("StatesOf(%+v, %d) = %v, want %v", f, line, got, states)
		}
		if got := impl.TruthOf(given, line); !slices.Equal(got, truth) {
			t.Errorf("TruthOf(%+v, %d) = %v, want %v", f, line, got, truth)
		}
	}
	if coherent, fresh := impl.Coherent(given), impl.Fresh(given); coherent != coherentBy(f) || fresh != freshBy(f) {
		t.Errorf("Coherent is %v and Fresh is %v: %+v", coherent, fresh, f)
	}
	if pictureOfFabric(given) != was {
		t.Errorf("it was written into: %+v", f)
	}
	return ways
}

// checkNoTruth asks all of a fabric that is not right.
func checkNoTruth(t *testing.T, why string, f impl.Fabric) {
	t.Helper()
	if fabricRight(f) {
		t.Fatalf("%s: it is right: %+v", why, f)
	}
	for _, line := range slices.Concat([]int64{0, 1, 2, 3, 4, 5, 15}, linesBeside) {
		if states, truth := impl.StatesOf(f, line), impl.TruthOf(f, line); len(states) != 0 || len(truth) != 0 {
			t.Fatalf("%s: of line %d they are %v, and it is %v", why, line, states, truth)
		}
	}
	for _, line := range []int64{-1, 0, 4} {
		checkStatesOf(t, f, line)
		checkTruthOf(t, f, line)
	}
	checkLooks(t, f, false, false)
	if t.Failed() {
		t.Fatalf("%s", why)
	}
}

// stock is a fabric of three cores with nothing to do, and a memory whose words are all unlike.
func stock() impl.Fabric {
	f := newBy(threeCores, make([][]impl.Op, 3), nil)
	f.House.Memory = unlikeWords(5)
	return f
}

// has gives the core this line, in the first Way of its Set that is empty.
func has(f *impl.Fabric, core int64, w impl.Way) {
	set := f.Cores[core].Cache.Sets[w.Line%f.Config.Sets]
	for i := range set {
		if set[i].Line == noLine {
			set[i] = wayOf(w.Line, w.State, slices.Clone(w.Data)...)
			return
		}
	}
	panic("there is no room")
}

// holdsBack lets the core be on its way to give this line back.
func holdsBack(f *impl.Fabric, core int64, w impl.Way) {
	f.Cores[core].Phase, f.Cores[core].Held = impl.PhEvict, w
}

func dataBy(core int64, line int64, words ...int64) impl.Msg {
	return impl.Msg{Road: 2, From: core, To: impl.Home, Kind: impl.MsData, Line: line, Data: words}
}

func putBy(core int64, line int64, words ...int64) impl.Msg {
	return impl.Msg{Road: 0, From: core, To: impl.Home, Kind: impl.MsPut, Line: line, Data: words, Flag: 1}
}

// Of a new fabric nobody has anything, and the truth is the memory's.
func TestCoherentOfNewFabrics(t *testing.T) {
	for c := range everyLayout {
		var programs [][]impl.Op
		for id := range c.Cores {
			programs = append(programs, opsIn(c.Lines, int(7*id%31)))
		}
		f, code := impl.NewFabric(c, programs, descsIn(c.Lines, int(c.Lines)))
		if code != impl.PgOk || !impl.Coherent(f) || !impl.Fresh(f) {
			t.Fatalf("of %+v it is %v and %v, by %d", c, impl.Coherent(f), impl.Fresh(f), code)
		}
		for line := range c.Lines {
			states, truth := impl.StatesOf(f, line), impl.TruthOf(f, line)
			if !slices.Equal(states, make([]int64, c.Cores)) || !slices.Equal(truth, []int64{0, 0}) {
				t.Fatalf("of line %d of %+v they are %v, and it is %v", line, c, states, truth)
			}
		}
		for _, line := range []int64{-1, c.Lines, c.Lines + 1, -c.Lines, 16, math.MinInt64, math.MaxInt64} {
			if states, truth := impl.StatesOf(f, line), impl.TruthOf(f, line); len(states) != 0 || len(truth) != 0 {
				t.Fatalf("of line %d of %+v they are %v, and it is %v", line, c, states, truth)
			}
		}
	}
}

func TestCoherentOfLinesBeside(t *testing.T) {
	wide := newBy(impl.Config{Cores: 4, Sets: 4, Ways: 4, Lines: 16}, make([][]impl.Op, 4), nil)
	wide.House.Memory = unlikeWords(16)
	for id := range int64(4) {
		for line := range int64(16) {
			has(&wide, id, wayOf(line, impl.StS, wide.House.Memory[line]...))
		}
	}
	checkLooks(t, wide, true, true)
	for _, f := range []impl.Fabric{mixedFabric(), eventfulFabric(4), wide, greatFabric(impl.Config{Cores: 1, Sets: 1, Ways: 1, Lines: 1})} {
		for _, line := range linesBeside {
			checkStatesOf(t, f, line)
			checkTruthOf(t, f, line)
		}
		for _, line := range []int64{f.Config.Lines, f.Config.Lines + 1} {
			checkStatesOf(t, f, line)
			checkTruthOf(t, f, line)
		}
		checkTruths(t, f)
	}
	checkStatesOf(t, wide, 15, 1, 1, 1, 1)
	checkTruthOf(t, wide, 15, 1300, 1307)
}

func TestCoherentMidwayByHand(t *testing.T) {
	f := mixedFabric()
	checkStatesOf(t, f, -1)
	checkStatesOf(t, f, 0, impl.StI, impl.StI, impl.StI)
	checkStatesOf(t, f, 1, impl.StI, impl.StI, impl.StE)
	// Core 1 has it Held, not in its Cache.
	checkStatesOf(t, f, 2, impl.StI, impl.StI, impl.StI)
	checkStatesOf(t, f, 3, impl.StI, impl.StM, impl.StI)
	checkStatesOf(t, f, 4, impl.StS, impl.StI, impl.StS)
	checkStatesOf(t, f, 5)
	checkTruthOf(t, f, -1)
	checkTruthOf(t, f, 0, 1000, 1007)
	checkTruthOf(t, f, 1, 1020, 1027)
	checkTruthOf(t, f, 2, 1040, 1047)
	checkTruthOf(t, f, 3, 8, 9)
	checkTruthOf(t, f, 4, 1080, 1087)
	checkTruthOf(t, f, 5)
	checkLooks(t, f, true, true)
}

// A line goes from one that writes it to one that reads it: each step by hand.
func TestCoherentStepsByHand(t *testing.T) {
	c := impl.Config{Cores: 2, Sets: 1, Ways: 1, Lines: 2}
	f, _ := impl.NewFabric(c, [][]impl.Op{{{Kind: impl.OpStore, Addr: 3, A: 5}, load(0)}, {load(2)}}, nil)
	steps := []struct {
		what   string
		action int64
		states []int64
		truth  []int64
		way    int
	}{
		{"core 0 asks", 0, []int64{0, 0}, []int64{0, 0}, byMemory},
		{"the house grants", 3, []int64{0, 0}, []int64{0, 0}, byMemory},
		{"core 0 writes", 3, []int64{impl.StM, 0}, []int64{0, 5}, byStM},
		{"the house hears of it", 3, []int64{impl.StM, 0}, []int64{0, 5}, byStM},
		{"core 0 gives it back", 0, []int64{0, 0}, []int64{0, 5}, byHeld},
		{"core 1 asks", 1, []int64{0, 0}, []int64{0, 5}, byHeld},
		{"the house asks core 0", 4, []int64{0, 0}, []int64{0, 5}, byHeld},
		// Of its two letters that bring the line MsPut is the first.
		{"core 0 lets it go", 4, []int64{0, 0}, []int64{0, 5}, byPut},
		{"the house hears of it, and grants", 4, []int64{0, 0}, []int64{0, 5}, byMemory},
		{"core 1 reads", 4, []int64{0, impl.StE}, []int64{0, 5}, byStE},
	}
	for _, s := range steps {
		var is bool
		if f, is = impl.Acted(f, s.action); !is {
			t.Fatalf("%s: it is not done: %+v", s.what, f)
		}
		checkStatesOf(t, f, 1, s.states...)
		checkTruthOf(t, f, 1, s.truth...)
		checkLooks(t, f, true, true)
		if way := checkTruths(t, f)[1]; way != s.way {
			t.Errorf("it is told by way %d", way)
		}
		if t.Failed() {
			t.Fatalf("%s", s.what)
		}
	}
}

// Each line in each Way of its Set, in each State, of each core alone.
func TestCoherentStatesOfEveryPlace(t *testing.T) {
	for sets, ways := range everySize {
		c := impl.Config{Cores: 3, Sets: sets, Ways: ways, Lines: 7}
		for line := range c.Lines {
			for way := range ways {
				for state := range int64(4) {
					for id := range c.Cores {
						f := newBy(c, make([][]impl.Op, 3), nil)
						want := make([]int64, 3)
						if state > 0 {
							f.Cores[id].Cache.Sets[line%sets][way] = wayOf(line, state, 0, 0)
							want[id] = state
						}
						if got := impl.StatesOf(f, line); !slices.Equal(got, want) {
							t.Fatalf("StatesOf(%+v, %d) = %v, want %v", f, line, got, want)
						}
						if other := (line + 1) % 7; !slices.Equal(impl.StatesOf(f, other), make([]int64, 3)) {
							t.Fatalf("StatesOf(%+v, %d) = %v", f, other, impl.StatesOf(f, other))
						}
						if !impl.Coherent(f) || !impl.Fresh(f) {
							t.Fatalf("alone it is not Coherent or not Fresh: %+v", f)
						}
					}
				}
			}
		}
	}
}

// All States that one to four cores can have of one line, in the first line, one amidst and the last: it is told by this line alone.
func TestCoherentOfEveryStates(t *testing.T) {
	seen := map[bool]int{}
	for cores := 1; cores <= 4; cores++ {
		for states := range everyList(cores, 0, 3) {
			for _, line := range []int64{0, 2, 6} {
				f := newBy(impl.Config{Cores: int64(cores), Sets: 2, Ways: 4, Lines: 7}, make([][]impl.Op, cores), nil)
				f.House.Memory = unlikeWords(7)
				for id, state := range states {
					if state > 0 {
						has(&f, int64(id), wayOf(line, state, 5, 6))
					}
					// All read the line beside it.
					has(&f, int64(id), wayOf((line+3)%7, impl.StS, f.House.Memory[(line+3)%7]...))
				}
				checkStatesOf(t, f, line, states...)
				want := byPairs(states)
				// What they have is alike, but not the memory's.
				alone := slices.ContainsFunc(states, func(state int64) bool { return state >= impl.StE })
				none := !slices.ContainsFunc(states, func(state int64) bool { return state != impl.StI })
				checkLooks(t, f, want, alone || none)
				checkTruths(t, f)
				stopIfFailed(t)
				seen[want]++
			}
		}
	}
	if seen[true] < 100 || seen[false] < 100 {
		t.Errorf("looked at %v", seen)
	}
}

func TestCoherentByHand(t *testing.T) {
	rows := []struct {
		why  string
		turn func(f *impl.Fabric, line int64)
		want bool
	}{
		{"nobody has it", func(f *impl.Fabric, line int64) {}, true},
		{"one may write it", func(f *impl.Fabric, line int64) { has(f, 1, wayOf(line, impl.StM, 5, 6)) }, true},
		{"one has it alone", func(f *impl.Fabric, line int64) { has(f, 1, wayOf(line, impl.StE, 5, 6)) }, true},
		{"two read it", func(f *impl.Fabric, line int64) {
			has(f, 0, wayOf(line, impl.StS, 5, 6))
			has(f, 2, wayOf(line, impl.StS, 5, 6))
		}, true},
		{"two read it, what they have is unlike", func(f *impl.Fabric, line int64) {
			has(f, 0, wayOf(line, impl.StS, 5, 6))
			has(f, 2, wayOf(line, impl.StS, 7, 8))
		}, true},
		{"two may write it", func(f *impl.Fabric, line int64) {
			has(f, 0, wayOf(line, impl.StM, 5, 6))
			has(f, 1, wayOf(line, impl.StM, 5, 6))
		}, false},
		{"two have it alone", func(f *impl.Fabric, line int64) {
			has(f, 1, wayOf(line, impl.StE, 5, 6))
			has(f, 2, wayOf(line, impl.StE, 5, 6))
		}, false},
		{"one has it alone, another one may write it", func(f *impl.Fabric, line int64) {
			has(f, 0, wayOf(line, impl.StE, 5, 6))
			has(f, 2, wayOf(line, impl.StM, 5, 6))
		}, false},
		{"one may write what another one reads", func(f *impl.Fabric, line int64) {
			has(f, 0, wayOf(line, impl.StM, 5, 6))
			has(f, 2, wayOf(line, impl.StS, 5, 6))
		}, false},
		{"one reads what another one has alone", func(f *impl.Fabric, line int64) {
			has(f, 0, wayOf(line, impl.StS, 5, 6))
			has(f, 1, wayOf(line, impl.StE, 5, 6))
		}, false},
		{"two read what the last may write", func(f *impl.Fabric, line int64) {
			has(f, 0, wayOf(line, impl.StS, 5, 6))
			has(f, 1, wayOf(line, impl.StS, 5, 6))
			has(f, 2, wayOf(line, impl.StM, 5, 6))
		}, false},
		{"one may write what another one has Held so", func(f *impl.Fabric, line int64) {
			has(f, 0, wayOf(line, impl.StM, 5, 6))
			holdsBack(f, 1, wayOf(line, impl.StM, 5, 6))
		}, true},
		{"two have it Held so", func(f *impl.Fabric, line int64) {
			holdsBack(f, 1, wayOf(line, impl.StM, 5, 6))
			holdsBack(f, 2, wayOf(line, impl.StM, 7, 8))
		}, true},
		{"the book says otherwise", func(f *impl.Fabric, line int64) {
			has(f, 0, wayOf(line, impl.StM, 5, 6))
			f.House.Book[line] = sharers(1, 2)
		}, true},
		{"two lines are written by two", func(f *impl.Fabric, line int64) {
			has(f, 0, wayOf(line, impl.StM, 5, 6))
			has(f, 1, wayOf((line+1)%5, impl.StM, 5, 6))
		}, true},
	}
	for _, r := range rows {
		for line := range int64(5) {
			f := stock()
			r.turn(&f, line)
			if !fabricRight(f) {
				t.Fatalf("%s: it is not right: %+v", r.why, f)
			}
			checkLooks(t, f, r.want, freshBy(f))
			if t.Failed() {
				t.Fatalf("%s, of line %d", r.why, line)
			}
			checkTruths(t, f)
		}
	}
}

// truthRow says how line 3 stands, whose memory has 1060 and 1067, and what it is then.
type truthRow struct {
	why  string
	turn func(f *impl.Fabric)
	want []int64
}

var remembered = []int64{1060, 1067}

func truthsOfCaches() []truthRow {
	cached := func(list ...impl.Way) func(f *impl.Fabric) {
		return func(f *impl.Fabric) {
			for id, w := range list {
				if w.State != impl.StI {
					has(f, int64(id), w)
				}
			}
		}
	}
	none, shared := wayOf(3, impl.StI), wayOf(3, impl.StS, 1, 2)
	alone, written := wayOf(3, impl.StE, 3, 4), wayOf(3, impl.StM, 5, 6)
	return []truthRow{
		{"nobody has it", cached(), remembered},
		{"core 0 reads it", cached(shared), remembered},
		{"core 2 reads it", cached(none, none, shared), remembered},
		{"all read it", cached(shared, shared, shared), remembered},
		{"core 0 has it alone", cached(alone), []int64{3, 4}},
		{"core 1 has it alone", cached(none, alone), []int64{3, 4}},
		{"core 2 has it alone", cached(none, none, alone), []int64{3, 4}},
		{"core 0 has written it", cached(written), []int64{5, 6}},
		{"core 2 has written it", cached(none, none, written), []int64{5, 6}},
		{"core 0 reads it, core 1 has it alone", cached(shared, alone), []int64{3, 4}},
		{"core 0 reads it, core 2 has written it", cached(shared, none, written), []int64{5, 6}},
		{"two have it alone", cached(none, alone, wayOf(3, impl.StE, 7, 8)), []int64{3, 4}},
		{"two have written it", cached(written, none, wayOf(3, impl.StM, 7, 8)), []int64{5, 6}},
		{"alone, then written", cached(alone, written), []int64{3, 4}},
		{"written, then alone", cached(none, written, alone), []int64{5, 6}},
		{"all three", cached(shared, written, alone), []int64{5, 6}},
		{"another line is written", cached(wayOf(1, impl.StM, 5, 6), shared), remembered},
		{"another line in the same place is written", cached(wayOf(1, impl.StM, 5, 6), alone), []int64{3, 4}},
	}
}

func truthsOfHeld() []truthRow {
	held := func(e impl.Entry, core int64, w impl.Way, more ...func(f *impl.Fabric)) func(f *impl.Fabric) {
		return func(f *impl.Fabric) {
			f.House.Book[3] = e
			holdsBack(f, core, w)
			for _, turn := range more {
				turn(f)
			}
		}
	}
	caches := func(core int64, w impl.Way) func(f *impl.Fabric) {
		return func(f *impl.Fabric) { has(f, core, w) }
	}
	letters := func(net ...impl.Msg) func(f *impl.Fabric) {
		return func(f *impl.Fabric) { f.Net = net }
	}
	shared, alone, written := wayOf(3, impl.StS, 1, 2), wayOf(3, impl.StE, 3, 4), wayOf(3, impl.StM, 5, 6)
	return []truthRow{
		{"the Owner holds it alone", held(owner(1), 1, alone), []int64{3, 4}},
		{"the Owner holds what it wrote", held(owner(1), 1, written), []int64{5, 6}},
		{"Owner 0 holds what it wrote", held(owner(0), 0, written), []int64{5, 6}},
		{"Owner 2 holds what it wrote", held(owner(2), 2, written), []int64{5, 6}},
		{"the Owner holds what it read", held(owner(1), 1, shared), remembered},
		{"the Owner has let it go", held(owner(1), 1, wayOf(3, impl.StI)), remembered},
		{"the Owner holds another line", held(owner(1), 1, wayOf(2, impl.StM, 5, 6)), remembered},
		{"the Owner holds another line, and so does the one who holds this one", held(owner(1), 1, wayOf(2, impl.StM, 5, 6), func(f *impl.Fabric) { holdsBack(f, 0, alone) }), remembered},
		{"another one than the Owner holds it", held(owner(0), 1, written), remembered},
		{"there is no Owner", held(nobody(), 1, written), remembered},
		{"there is no Owner, core 0 holds it", held(nobody(), 0, written), remembered},
		{"a Sharer holds it", held(sharers(0, 1), 1, written), remembered},
		{"core 0 holds it too, core 1 is the Owner", held(owner(1), 0, written, func(f *impl.Fabric) { holdsBack(f, 1, alone) }), []int64{3, 4}},
		{"core 0 holds it too, core 2 is the Owner", held(owner(2), 0, alone, func(f *impl.Fabric) { holdsBack(f, 2, written) }), []int64{5, 6}},
		{"another one reads it", held(owner(1), 1, written, caches(0, shared)), []int64{5, 6}},
		{"another one has it alone", held(owner(1), 1, written, caches(2, alone)), []int64{3, 4}},
		{"another one ahead has written it", held(owner(1), 1, alone, caches(0, written)), []int64{5, 6}},
		{"it is Busy", held(busy(owner(1), impl.KdRead, 0, 1), 1, written), []int64{5, 6}},
		{"something else is to be written", held(putting(owner(1), 1, 3, 71, 72), 1, written), []int64{5, 6}},
		{"something else is to be written where nobody has it", held(putting(sharers(2), 1, 3, 71, 72), 1, written), remembered},
		{"it is on its way too", held(owner(1), 1, written, letters(dataBy(1, 3, 7, 8), putBy(1, 3, 9, 9))), []int64{5, 6}},
		{"it is on its way, and was let go", held(owner(1), 1, wayOf(3, impl.StI), letters(putBy(1, 3, 7, 8), dataBy(1, 3, 9, 9))), []int64{7, 8}},
		{"it is on its way, and is held to be read", held(owner(1), 1, shared, letters(dataBy(1, 3, 7, 8))), []int64{7, 8}},
	}
}

func truthsOfLetters() []truthRow {
	sent := func(e impl.Entry, net ...impl.Msg) func(f *impl.Fabric) {
		return func(f *impl.Fabric) { f.House.Book[3], f.Net = e, net }
	}
	kind := func(kind int64) impl.Msg {
		m := dataBy(1, 3, 5, 6)
		m.Kind = kind
		return m
	}
	cached := func(w impl.Way, turn func(f *impl.Fabric)) func(f *impl.Fabric) {
		return func(f *impl.Fabric) {
			turn(f)
			has(f, 1, w)
		}
	}
	rows := []truthRow{
		{"the Owner has nothing", sent(owner(1)), remembered},
		{"MsData", sent(owner(1), dataBy(1, 3, 5, 6)), []int64{5, 6}},
		{"MsPut", sent(owner(1), putBy(1, 3, 7, 8)), []int64{7, 8}},
		{"MsData of Owner 0", sent(owner(0), dataBy(0, 3, 5, 6)), []int64{5, 6}},
		{"MsPut of Owner 2", sent(owner(2), putBy(2, 3, 7, 8)), []int64{7, 8}},
		{"MsData, then MsPut", sent(owner(1), dataBy(1, 3, 5, 6), putBy(1, 3, 7, 8)), []int64{5, 6}},
		{"MsPut, then MsData", sent(owner(1), putBy(1, 3, 7, 8), dataBy(1, 3, 5, 6)), []int64{7, 8}},
		{"MsData twice", sent(owner(1), dataBy(1, 3, 5, 6), dataBy(1, 3, 7, 8)), []int64{5, 6}},
		{"MsPut twice", sent(owner(1), putBy(1, 3, 7, 8), putBy(1, 3, 5, 6)), []int64{7, 8}},
		{"MsData without Data", sent(owner(1), dataBy(1, 3)), remembered},
		{"MsPut without Data", sent(owner(1), putBy(1, 3)), remembered},
		{"MsPut without Data, then with", sent(owner(1), putBy(1, 3), putBy(1, 3, 7, 8)), []int64{7, 8}},
		{"MsPut without Data, then MsData", sent(owner(1), putBy(1, 3), dataBy(1, 3, 5, 6)), []int64{5, 6}},
		{"MsData without Data, then MsPut", sent(owner(1), dataBy(1, 3), putBy(1, 3, 7, 8)), []int64{7, 8}},
		{"MsData of another line", sent(owner(1), dataBy(1, 2, 5, 6), dataBy(1, 4, 5, 6)), remembered},
		{"MsPut of another line", sent(owner(1), putBy(1, 0, 5, 6), putBy(1, 1, 5, 6)), remembered},
		{"of another line, then of this one", sent(owner(1), dataBy(1, 2, 5, 6), putBy(1, 3, 7, 8)), []int64{7, 8}},
		{"MsData from another one", sent(owner(1), dataBy(0, 3, 5, 6), dataBy(2, 3, 5, 6)), remembered},
		{"MsPut from another one", sent(owner(1), putBy(0, 3, 5, 6), putBy(2, 3, 5, 6)), remembered},
		{"from another one, then from the Owner", sent(owner(1), putBy(0, 3, 5, 6), dataBy(2, 3, 1, 2), dataBy(1, 3, 7, 8)), []int64{7, 8}},
		{"from the house and the DMA", sent(owner(1), dataBy(impl.Home, 3, 5, 6), putBy(impl.Port, 3, 5, 6)), remembered},
		{"no Owner", sent(nobody(), dataBy(0, 3, 5, 6), putBy(1, 3, 5, 6), dataBy(impl.Home, 3, 5, 6)), remembered},
		{"Sharers", sent(sharers(0, 1, 2), dataBy(0, 3, 5, 6), putBy(1, 3, 5, 6), dataBy(2, 3, 5, 6)), remembered},
		{"Busy, with something to be written", sent(putting(owner(1), 1, 3, 71, 72), dataBy(1, 3, 5, 6)), []int64{5, 6}},
		{"Busy, nothing is on its way yet", sent(putting(owner(1), 1, 3, 71, 72), invalidTo(1, 3)), remembered},
		{"the last of all letters", sent(owner(1), append(slices.Repeat([]impl.Msg{dataBy(0, 3, 1, 2)}, 59), putBy(1, 3, 7, 8))...), []int64{7, 8}},
		{"the Owner has it to be read", cached(wayOf(3, impl.StS, 1, 2), sent(owner(1), dataBy(1, 3, 5, 6))), []int64{5, 6}},
		{"the Owner has it alone", cached(wayOf(3, impl.StE, 3, 4), sent(owner(1), dataBy(1, 3, 5, 6))), []int64{3, 4}},
		{"core 1 has written it, the Owner's is on its way", cached(wayOf(3, impl.StM, 3, 4), sent(owner(0), dataBy(0, 3, 5, 6))), []int64{3, 4}},
		{"core 1 reads it, the Owner's is on its way", cached(wayOf(3, impl.StS, 3, 4), sent(owner(0), putBy(0, 3, 5, 6))), []int64{5, 6}},
		{"words of nought", sent(owner(1), dataBy(1, 3, 0, 0), putBy(1, 3, 5, 6)), []int64{0, 0}},
	}
	for k := int64(1); k <= 15; k++ {
		want := remembered
		if k == impl.MsData || k == impl.MsPut {
			want = []int64{5, 6}
		}
		rows = append(rows, truthRow{fmt.Sprint("Kind ", k), sent(owner(1), kind(k)), want})
	}
	return rows
}

// Each way of the truth by hand; the other lines stay what they are.
func TestCoherentTruthByHand(t *testing.T) {
	for _, r := range slices.Concat(truthsOfCaches(), truthsOfHeld(), truthsOfLetters()) {
		f := stock()
		r.turn(&f)
		if !fabricRight(f) {
			t.Fatalf("%s: it is not right: %+v", r.why, f)
		}
		checkTruthOf(t, f, 3, r.want...)
		checkTruthOf(t, f, 0, f.House.Memory[0]...)
		checkTruthOf(t, f, 4, f.House.Memory[4]...)
		checkTruths(t, f)
		if t.Failed() {
			t.Fatalf("%s", r.why)
		}
	}
}

// Nothing else of a letter matters: neither its Road, nor to whom it goes, nor its Flag.
func TestCoherentTruthOfEveryLetter(t *testing.T) {
	for _, kind := range []int64{impl.MsData, impl.MsPut} {
		for road := range int64(3) {
			for _, to := range []int64{0, 1, 2, 4, 5} {
				for flag := range int64(16) {
					f := stock()
					f.House.Book[3] = owner(1)
					f.Net = []impl.Msg{{Road: road, From: 1, To: to, Kind: kind, Line: 3, Data: []int64{5, 6}, Flag: flag}}
					if got := impl.TruthOf(f, 3); !slices.Equal(got, []int64{5, 6}) {
						t.Fatalf("TruthOf(%+v, 3) = %v", f, got)
					}
				}
			}
		}
	}
}

// The first line and the last, of each Owner, by each way.
func TestCoherentTruthOfEveryLine(t *testing.T) {
	for line := range int64(5) {
		for id := range int64(3) {
			for name, turn := range map[string]func(f *impl.Fabric){
				"StE":    func(f *impl.Fabric) { has(f, id, wayOf(line, impl.StE, 5, 6)) },
				"StM":    func(f *impl.Fabric) { has(f, id, wayOf(line, impl.StM, 5, 6)) },
				"Held":   func(f *impl.Fabric) { holdsBack(f, id, wayOf(line, impl.StM, 5, 6)) },
				"MsData": func(f *impl.Fabric) { f.Net = []impl.Msg{dataBy(id, line, 5, 6)} },
				"MsPut":  func(f *impl.Fabric) { f.Net = []impl.Msg{putBy(id, line, 5, 6)} },
			} {
				f := stock()
				f.House.Book[line] = owner(id)
				turn(&f)
				for other := range int64(5) {
					want := f.House.Memory[other]
					if other == line {
						want = []int64{5, 6}
					}
					checkTruthOf(t, f, other, want...)
				}
				if t.Failed() {
					t.Fatalf("%s of line %d by core %d", name, line, id)
				}
			}
		}
	}
}

func TestCoherentFreshByHand(t *testing.T) {
	rows := []struct {
		why  string
		turn func(f *impl.Fabric, line int64)
		want bool
	}{
		{"nobody has it", func(f *impl.Fabric, line int64) {}, true},
		{"one reads what the memory has", func(f *impl.Fabric, line int64) { has(f, 1, wayOf(line, impl.StS, f.House.Memory[line]...)) }, true},
		{"all read what the memory has", func(f *impl.Fabric, line int64) {
			for id := range int64(3) {
				has(f, id, wayOf(line, impl.StS, f.House.Memory[line]...))
			}
		}, true},
		{"core 0 reads something else", func(f *impl.Fabric, line int64) { has(f, 0, wayOf(line, impl.StS, 5, 6)) }, false},
		{"core 2 reads something else", func(f *impl.Fabric, line int64) { has(f, 2, wayOf(line, impl.StS, 5, 6)) }, false},
		{"only the last one reads something else", func(f *impl.Fabric, line int64) {
			has(f, 0, wayOf(line, impl.StS, f.House.Memory[line]...))
			has(f, 1, wayOf(line, impl.StS, f.House.Memory[line]...))
			has(f, 2, wayOf(line, impl.StS, 5, 6))
		}, false},
		{"only the first one reads something else", func(f *impl.Fabric, line int64) {
			has(f, 0, wayOf(line, impl.StS, 5, 6))
			has(f, 1, wayOf(line, impl.StS, f.House.Memory[line]...))
			has(f, 2, wayOf(line, impl.StS, f.House.Memory[line]...))
		}, false},
		{"the first word is another", func(f *impl.Fabric, line int64) {
			has(f, 1, wayOf(line, impl.StS, 1, f.House.Memory[line][1]))
		}, false},
		{"the second word is another", func(f *impl.Fabric, line int64) {
			has(f, 1, wayOf(line, impl.StS, f.House.Memory[line][0], 1))
		}, false},
		{"the words are the other way round", func(f *impl.Fabric, line int64) {
			has(f, 1, wayOf(line, impl.StS, f.House.Memory[line][1], f.House.Memory[line][0]))
		}, false},
		{"one has written it", func(f *impl.Fabric, line int64) { has(f, 1, wayOf(line, impl.StM, 5, 6)) }, true},
		{"one has it alone, and it is not the memory's", func(f *impl.Fabric, line int64) { has(f, 1, wayOf(line, impl.StE, 5, 6)) }, true},
		{"one has written it, another one reads the same", func(f *impl.Fabric, line int64) {
			has(f, 0, wayOf(line, impl.StS, 5, 6))
			has(f, 1, wayOf(line, impl.StM, 5, 6))
		}, true},
		{"one has written it, another one reads the memory's", func(f *impl.Fabric, line int64) {
			has(f, 0, wayOf(line, impl.StS, f.House.Memory[line]...))
			has(f, 1, wayOf(line, impl.StM, 5, 6))
		}, false},
		{"two have written the same", func(f *impl.Fabric, line int64) {
			has(f, 0, wayOf(line, impl.StM, 5, 6))
			has(f, 2, wayOf(line, impl.StM, 5, 6))
		}, true},
		{"two have written unlike things", func(f *impl.Fabric, line int64) {
			has(f, 0, wayOf(line, impl.StM, 5, 6))
			has(f, 2, wayOf(line, impl.StM, 5, 7))
		}, false},
		{"two have it alone, of unlike words", func(f *impl.Fabric, line int64) {
			has(f, 1, wayOf(line, impl.StE, 5, 6))
			has(f, 2, wayOf(line, impl.StE, 7, 6))
		}, false},
		{"the Owner holds it, another one reads that", func(f *impl.Fabric, line int64) {
			f.House.Book[line] = owner(1)
			holdsBack(f, 1, wayOf(line, impl.StM, 5, 6))
			has(f, 0, wayOf(line, impl.StS, 5, 6))
		}, true},
		{"the Owner holds it, another one reads the memory's", func(f *impl.Fabric, line int64) {
			f.House.Book[line] = owner(1)
			holdsBack(f, 1, wayOf(line, impl.StM, 5, 6))
			has(f, 0, wayOf(line, impl.StS, f.House.Memory[line]...))
		}, false},
		{"what is Held to be read is something else", func(f *impl.Fabric, line int64) {
			f.House.Book[line] = sharers(1)
			holdsBack(f, 1, wayOf(line, impl.StS, 5, 6))
		}, true},
		{"what is Held by another one than the Owner is something else", func(f *impl.Fabric, line int64) {
			f.House.Book[line] = owner(0)
			holdsBack(f, 1, wayOf(line, impl.StM, 5, 6))
		}, true},
		{"the Owner's is on its way, and it reads that", func(f *impl.Fabric, line int64) {
			f.House.Book[line], f.Net = owner(1), []impl.Msg{dataBy(1, line, 5, 6)}
			has(f, 1, wayOf(line, impl.StS, 5, 6))
		}, true},
		{"the Owner's is on its way, and it reads the memory's", func(f *impl.Fabric, line int64) {
			f.House.Book[line], f.Net = owner(1), []impl.Msg{dataBy(1, line, 5, 6)}
			has(f, 1, wayOf(line, impl.StS, f.House.Memory[line]...))
		}, false},
		{"letters from others are on their way", func(f *impl.Fabric, line int64) {
			f.House.Book[line], f.Net = sharers(1), []impl.Msg{dataBy(1, line, 5, 6), putBy(0, line, 5, 6)}
			has(f, 1, wayOf(line, impl.StS, f.House.Memory[line]...))
		}, true},
		{"a grant of something else is on its way", func(f *impl.Fabric, line int64) {
			f.House.Book[line], f.Net = owner(1), []impl.Msg{grantTo(1, line, impl.StM, 5, 6)}
		}, true},
	}
	for _, r := range rows {
		for line := range int64(5) {
			f := stock()
			r.turn(&f, line)
			if !fabricRight(f) {
				t.Fatalf("%s: it is not right: %+v", r.why, f)
			}
			checkLooks(t, f, coherentBy(f), r.want)
			if t.Failed() {
				t.Fatalf("%s, of line %d", r.why, line)
			}
			checkTruths(t, f)
		}
	}
}

// All lines are read by all as they are; then of one core one line alone is something else.
func TestCoherentFreshOfOneWordAmongAll(t *testing.T) {
	c := impl.Config{Cores: 4, Sets: 4, Ways: 4, Lines: 16}
	f := newBy(c, make([][]impl.Op, 4), nil)
	f.House.Memory = unlikeWords(16)
	for id := range int64(4) {
		for line := range int64(16) {
			has(&f, id, wayOf(line, impl.StS, f.House.Memory[line]...))
		}
	}
	checkLooks(t, f, true, true)
	for id := range int64(4) {
		for line := range int64(16) {
			stale := fabricCopy(f)
			w, _ := ownBy(stale.Cores[id], line)
			w.Data[line%2]++
			checkLooks(t, stale, true, false)
			// The one who has it alone tells the truth: then it is all others that are stale.
			alone := fabricCopy(f)
			set := alone.Cores[id].Cache.Sets[line%4]
			set[line/4].State, set[line/4].Data[0] = impl.StE, 9
			checkLooks(t, alone, false, false)
			checkTruthOf(t, alone, line, 9, f.House.Memory[line][1])
			memory := fabricCopy(f)
			memory.House.Memory[line][1-line%2]--
			checkLooks(t, memory, true, false)
		}
		stopIfFailed(t)
	}
}

func TestCoherentOfWrongFabrics(t *testing.T) {
	for _, r := range wrongToRun() {
		f := mixedFabric()
		r.turn(&f)
		checkNoTruth(t, r.why, f)
	}
	for _, bad := range noLayouts {
		f := mixedFabric()
		f.Config = bad
		checkNoTruth(t, "a layout that is not right", f)
	}
	for _, n := range farNumbers {
		checkNoTruth(t, "far numbers", impl.Fabric{Config: impl.Config{Cores: n, Sets: n, Ways: n, Lines: n}, Dma: impl.Dma{At: n}, Net: []impl.Msg{{Road: n, From: n, To: n, Kind: n, Line: n, Flag: n}}, Events: []impl.Event{{Agent: n, Line: n, Mask: n, Told: n}}})
		f := mixedFabric()
		f.House.Book[1].Owner = n
		if fabricRight(f) {
			continue
		}
		checkNoTruth(t, "a far Owner", f)
	}
	for i, r := range wrongFabricEvents() {
		f := mixedFabric()
		f.Events = append(f.Events, r.e)
		if i%20 == 0 {
			checkNoTruth(t, r.why, f)
		}
	}
	for _, state := range farStates {
		f := mixedFabric()
		f.Cores[2].Cache.Sets[1][0].State = state
		if fabricRight(f) {
			continue
		}
		checkNoTruth(t, "a State that is none", f)
	}
}

// Lists that are nil and such as are empty are the same.
func TestCoherentOfListsThatAreNil(t *testing.T) {
	bare := stock()
	wide := fabricCopy(bare)
	wide.Dma = impl.Dma{Program: []impl.Desc{}, Told: [][]int64{}}
	wide.Net, wide.Events = []impl.Msg{}, []impl.Event{}
	for i := range wide.Cores {
		wide.Cores[i].Program, wide.Cores[i].Told, wide.Cores[i].Held.Data = []impl.Op{}, []int64{}, []int64{}
		wide.Cores[i].Cache.Sets[0][1].Data = []int64{}
	}
	for _, f := range []impl.Fabric{bare, wide} {
		for line := range int64(5) {
			if states, truth := impl.StatesOf(f, line), impl.TruthOf(f, line); !slices.Equal(states, []int64{0, 0, 0}) || !slices.Equal(truth, f.House.Memory[line]) {
				t.Errorf("of line %d of %+v they are %v, and it is %v", line, f, states, truth)
			}
		}
		if !impl.Coherent(f) || !impl.Fresh(f) {
			t.Errorf("Coherent is %v and Fresh %v of %+v", impl.Coherent(f), impl.Fresh(f), f)
		}
	}
	wide.Net = []impl.Msg{{Road: 2, From: 1, To: 4, Kind: impl.MsData, Line: 3, Data: []int64{}}, dataBy(1, 3, 5, 6)}
	wide.House.Book[3] = owner(1)
	if truth := impl.TruthOf(wide, 3); !slices.Equal(truth, []int64{5, 6}) {
		t.Errorf("behind a letter with an empty list it is %v", truth)
	}
}

// Of any right fabric all is as the text over again has it, also of such as no new one comes to.
func TestCoherentOfAnyRightFabric(t *testing.T) {
	d := &dice{31}
	ways := map[int]int{}
	coherent, fresh := map[bool]int{}, map[bool]int{}
	for range 500 {
		f := d.anyFabric()
		if d.roll(2) == 0 {
			f.Cores = f.Cores[:1]
			f = onlyCore(f)
		}
		for _, way := range checkTruths(t, f) {
			ways[way]++
		}
		coherent[impl.Coherent(f)]++
		fresh[impl.Fresh(f)]++
		stopIfFailed(t)
	}
	for way := byStE; way <= byMemory; way++ {
		if ways[way] < 20 {
			t.Errorf("the truths were told by %v", ways)
		}
	}
	if coherent[true] < 50 || coherent[false] < 50 || fresh[true] < 10 || fresh[false] < 50 {
		t.Errorf("Coherent were %v, and Fresh %v", coherent, fresh)
	}
}

// onlyCore is the fabric with its first core alone, right as it was: all that others have in it is core 0's.
func onlyCore(f impl.Fabric) impl.Fabric {
	f = fabricCopy(f)
	f.Config.Cores = 1
	for i, e := range f.House.Book {
		if e.Owner > 0 {
			e.Owner = 0
		}
		e.Sharers &= 1
		if e.From < impl.Home {
			e.From = 0
		}
		f.House.Book[i] = e
	}
	for i, m := range f.Net {
		if m.From < impl.Home {
			f.Net[i].From = 0
		}
		if m.To < impl.Home {
			f.Net[i].To = 0
		}
	}
	return f
}

// written is what all lines are when the Events were done to a new memory, one after the other.
func written(f impl.Fabric) [][]int64 {
	words := make([]int64, 2*f.Config.Lines)
	for _, e := range f.Events {
		if e.Agent != impl.Port {
			words[e.Op.Addr], _ = impl.Done(e.Op, words[e.Op.Addr])
			continue
		}
		for i := range int64(2) {
			if e.Mask>>i&1 == 1 {
				words[2*e.Line+i] = e.Data[i]
			}
		}
	}
	var lines [][]int64
	for line := range f.Config.Lines {
		lines = append(lines, words[2*line:2*line+2])
	}
	return lines
}

// checkOneTruth is promise 17 of one fabric that was new once: one writes or many read, all that have a line have its truth, and it is what was written last. It counts by which ways the truths are told.
func checkOneTruth(t *testing.T, f impl.Fabric, ways map[int]int) {
	t.Helper()
	if !impl.Coherent(f) || !coherentBy(f) {
		t.Fatalf("it is not Coherent: %+v", f)
	}
	if !impl.Fresh(f) || !freshBy(f) {
		t.Fatalf("it is not Fresh: %+v", f)
	}
	last := written(f)
	for line := range f.Config.Lines {
		truth, way := truthBy(f, line)
		ways[way]++
		if got := impl.TruthOf(f, line); !slices.Equal(got, truth) || !slices.Equal(got, last[line]) {
			t.Fatalf("TruthOf(%+v, %d) = %v, want %v; written was %v", f, line, got, truth, last[line])
		}
		if got := impl.StatesOf(f, line); !slices.Equal(got, statesBy(f, line)) {
			t.Fatalf("StatesOf(%+v, %d) = %v", f, line, got)
		}
	}
}

// walksInTruth goes by the picker from a new fabric to its end, and looks behind each step.
func walksInTruth(t *testing.T, f impl.Fabric, p picker, ways map[int]int) {
	t.Helper()
	for {
		checkOneTruth(t, f, ways)
		enabled := impl.Enabled(f)
		if len(enabled) == 0 {
			return
		}
		var is bool
		if f, is = impl.Picked(f, p.pick(f, enabled)); !is {
			t.Fatalf("%s: nothing is picked: %+v", p.name, f)
		}
	}
}

// Promise 17: one writes or many read, whatever is picked.
func TestCoherentLongWalks(t *testing.T) {
	d := &dice{32}
	ways := map[int]int{}
	for i := range 60 {
		f := d.newFabric(t, 1+int64(i%6), 12)
		list := pickers(d)
		for _, p := range []picker{list[0], list[1], list[i%len(list)]} {
			walksInTruth(t, f, p, ways)
		}
	}
	for way := byStE; way <= byMemory; way++ {
		if ways[way] < 30 {
			t.Errorf("the truths were told by %v", ways)
		}
	}
}

// Small stores and few lines: all want the same ones, and let go of them again and again.
func TestCoherentLongWalksAboutFewLines(t *testing.T) {
	d := &dice{33}
	ways := map[int]int{}
	for cores := int64(2); cores <= 4; cores++ {
		for lines := int64(1); lines <= 3; lines++ {
			c := impl.Config{Cores: cores, Sets: 1, Ways: 1, Lines: lines}
			var programs [][]impl.Op
			for range cores {
				programs = append(programs, d.program(lines, 12))
			}
			f, _ := impl.NewFabric(c, programs, d.descs(lines, 8))
			for _, p := range pickers(d) {
				walksInTruth(t, f, p, ways)
			}
		}
	}
}

func TestCoherentLongWalksOfTheGreatest(t *testing.T) {
	d := &dice{34}
	for i, c := range []impl.Config{{Cores: 4, Sets: 1, Ways: 1, Lines: 3}, {Cores: 4, Sets: 2, Ways: 2, Lines: 16}, {Cores: 3, Sets: 1, Ways: 2, Lines: 4}} {
		walksInTruth(t, greatFabric(c), pickers(d)[i], map[int]int{})
	}
}

// truthOfAll looks at all that can come of a fabric; seen has what was looked at.
func truthOfAll(t *testing.T, f impl.Fabric, seen map[string]bool, ways map[int]int) {
	t.Helper()
	key := valueOf(f) + fmt.Sprint(written(f))
	if seen[key] {
		return
	}
	seen[key] = true
	checkOneTruth(t, f, ways)
	for n := range impl.Enabled(f) {
		then, _ := impl.Picked(f, int64(n))
		truthOfAll(t, then, seen, ways)
	}
}

// Promise 17 of some small fabrics, by each pick that there can be.
func TestCoherentByEachPick(t *testing.T) {
	two := impl.Config{Cores: 2, Sets: 1, Ways: 1, Lines: 2}
	three := impl.Config{Cores: 3, Sets: 1, Ways: 1, Lines: 1}
	add := func(addr int64, a int64) impl.Op { return impl.Op{Kind: impl.OpAdd, Addr: addr, A: a} }
	rows := []struct {
		c        impl.Config
		programs [][]impl.Op
		list     []impl.Desc
	}{
		{two, [][]impl.Op{{add(0, 1), load(2), add(1, 2)}, {add(0, 3), load(1)}}, nil},
		{two, [][]impl.Op{{add(0, 1), load(2)}, {load(0), add(1, 3)}}, []impl.Desc{writeOf(0, 1, 5, 6)}},
		{two, [][]impl.Op{{add(0, 1), add(2, 2)}, {add(3, 3), add(1, 4)}}, []impl.Desc{readOf(0)}},
		{three, [][]impl.Op{{load(0), add(1, 1)}, {load(1)}, {add(0, 2)}}, []impl.Desc{writeOf(0, 2, 5, 6)}},
	}
	ways, count := map[int]int{}, 0
	for _, r := range rows {
		f, code := impl.NewFabric(r.c, r.programs, r.list)
		if code != impl.PgOk {
			t.Fatalf("it is refused by %d", code)
		}
		seen := map[string]bool{}
		truthOfAll(t, f, seen, ways)
		count += len(seen)
	}
	if len(ways) != byMemory+1 || count < 1000 {
		t.Errorf("of %d fabrics the truths were told by %v", count, ways)
	}
}

// What is answered shares nothing with what was given, nor with another answer.
func TestCoherentAnswersAreNewMemory(t *testing.T) {
	d := &dice{35}
	list := []impl.Fabric{mixedFabric(), eventfulFabric(3), {}}
	for _, r := range slices.Concat(truthsOfCaches(), truthsOfHeld(), truthsOfLetters()) {
		f := stock()
		r.turn(&f)
		list = append(list, f)
	}
	for range 20 {
		list = append(list, d.anyFabric())
	}
	ask := func(f impl.Fabric) [][]int64 {
		var answers [][]int64
		for line := int64(-1); line <= 16; line++ {
			answers = append(answers, impl.StatesOf(f, line), impl.TruthOf(f, line), impl.TruthOf(f, line))
		}
		return answers
	}
	for _, f := range list {
		given := roomyFabric(f)
		was := pictureOfFabric(given)
		answers := ask(given)
		checkRoomsApart(t, "the answers about the truth", answers, given)
		for _, words := range ask(given) {
			spoil(words)
			_ = append(words, 98, 97)
		}
		if pictureOfFabric(given) != was {
			t.Fatalf("an answer has memory of its argument: %+v", f)
		}
		spoilFabric(given)
		for i, want := range ask(f) {
			if !slices.Equal(answers[i], want) {
				t.Fatalf("answer %d changes with what was given: %+v", i, f)
			}
		}
	}
}

// What is given may share memory, all with all: what is answered does not.
func TestCoherentOfArgumentsThatShare(t *testing.T) {
	one := []int64{3, 1}
	core := idle(emptyStore(2, 2), load(0))
	core.Cache.Sets[0][0] = impl.Way{Line: 2, State: impl.StS, Data: one}
	f := impl.Fabric{
		Config: threeCores,
		House:  impl.House{Memory: [][]int64{one, one, one, one, one}, Book: []impl.Entry{nobody(), owner(0), sharers(0, 1, 2), owner(1), owner(2)}},
		Cores:  []impl.Core{core, core, core},
		Net:    []impl.Msg{{Road: 2, From: 1, To: 4, Kind: impl.MsData, Line: 3, Data: one}, {From: 2, To: 4, Kind: impl.MsPut, Line: 4, Data: one, Flag: 1}},
	}
	f.Cores[0].Phase, f.Cores[0].Held = impl.PhEvict, impl.Way{Line: 1, State: impl.StM, Data: one}
	if !impl.FabricOk(f) || !impl.Coherent(f) || !impl.Fresh(f) {
		t.Fatalf("it is %v, %v and %v", impl.FabricOk(f), impl.Coherent(f), impl.Fresh(f))
	}
	var answers [][]int64
	for line := range int64(5) {
		answers = append(answers, impl.TruthOf(f, line), impl.StatesOf(f, line))
		if !slices.Equal(answers[2*line], one) {
			t.Errorf("of line %d it is %v", line, answers[2*line])
		}
	}
	checkRoomsApart(t, "the answers about the truth", answers, f, one)
	if !slices.Equal(one, []int64{3, 1}) {
		t.Errorf("it was written into: %v", one)
	}
}

// One fabric may be asked many times: it stays as it was, and each time it answers the same.
func TestCoherentStaysWhatItWas(t *testing.T) {
	f := roomyFabric(mixedFabric())
	was := pictureOfFabric(f)
	for range 5 {
		for line := int64(-2); line <= 7; line++ {
			states, truth := impl.StatesOf(f, line), impl.TruthOf(f, line)
			if !slices.Equal(states, impl.StatesOf(f, line)) || !slices.Equal(truth, impl.TruthOf(f, line)) || !impl.Coherent(f) || !impl.Fresh(f) || pictureOfFabric(f) != was {
				t.Fatalf("of line %d it is not the same twice", line)
			}
		}
	}
}
