package tests

import (
	"fmt"
	"math"
	"slices"
	"testing"

	"loop.example/g00342/impl"
)

// endAnswer is all that Ended answers.
type endAnswer struct {
	fabric impl.Fabric
	count  int64
}

func (a endAnswer) same(b endAnswer) bool {
	return sameFabric(a.fabric, b.fabric) && a.count == b.count
}

// picksBy and the ones below are the chapter's text over again, of a right fabric; who is Enabled and what is Acted is held against its own text in the tests of the fabric.
func picksBy(f impl.Fabric, n int64) fabricAnswer {
	enabled := impl.Enabled(f)
	if n < 0 || len(enabled) == 0 {
		return stillFabric(f)
	}
	for n >= int64(len(enabled)) {
		n -= n / int64(len(enabled)) * int64(len(enabled))
	}
	fresh, is := impl.Acted(f, enabled[n])
	return fabricAnswer{fresh, is}
}

func runsBy(f impl.Fabric, script []int64) impl.Fabric {
	for _, n := range script {
		f = picksBy(f, n).fabric
	}
	return f
}

func finishedBy(f impl.Fabric) bool {
	for _, c := range f.Cores {
		if len(c.Told) < len(c.Program) {
			return false
		}
	}
	return len(f.Dma.Told) == len(f.Dma.Program) && len(f.Net) == 0
}

func boundBy(f impl.Fabric) int64 {
	each := int64(7)
	work := int64(len(f.Dma.Program))
	for _, c := range f.Cores {
		each += 2
		work += int64(len(c.Program))
	}
	return work * each
}

func seedNext(x int64) int64 { return (x*25173 + 13849) & 0xffff }

func endsBy(f impl.Fabric, seed int64) endAnswer {
	for count := range int64(3000) {
		answer := picksBy(f, seed)
		if !answer.is {
			return endAnswer{f, count}
		}
		f, seed = answer.fabric, seedNext(seed)
	}
	return endAnswer{f, 3000}
}

func checkPicked(t *testing.T, f impl.Fabric, n int64, want fabricAnswer) {
	t.Helper()
	given := roomyFabric(f)
	was := pictureOfFabric(given)
	fabric, is := impl.Picked(given, n)
	if got := (fabricAnswer{fabric, is}); !got.same(want) {
		t.Errorf("Picked(%+v, %d) = %+v, want %+v", f, n, got, want)
	}
	if pictureOfFabric(given) != was {
		t.Errorf("Picked(%+v, %d) wrote into its argument", f, n)
	}
}

func checkRan(t *testing.T, f impl.Fabric, script []int64, want impl.Fabric) {
	t.Helper()
	given, numbers := roomyFabric(f), roomy(script)
	was := pictureOfFabric(given)
	if got := impl.Ran(given, numbers); !sameFabric(got, want) {
		t.Errorf("Ran(%+v, %v) = %+v, want %+v", f, script, got, want)
	}
	if pictureOfFabric(given) != was || !untouched(numbers, script) {
		t.Errorf("Ran(%+v, %v) wrote into an argument", f, script)
	}
}

func checkFinished(t *testing.T, f impl.Fabric, want bool) {
	t.Helper()
	given := roomyFabric(f)
	was := pictureOfFabric(given)
	if got := impl.Finished(given); got != want {
		t.Errorf("Finished(%+v) = %v", f, got)
	}
	if pictureOfFabric(given) != was {
		t.Errorf("Finished(%+v) wrote into its argument", f)
	}
}

func checkBound(t *testing.T, f impl.Fabric, want int64) {
	t.Helper()
	given := roomyFabric(f)
	was := pictureOfFabric(given)
	if got := impl.Bound(given); got != want {
		t.Errorf("Bound(%+v) = %d, want %d", f, got, want)
	}
	if pictureOfFabric(given) != was {
		t.Errorf("Bound(%+v) wrote into its argument", f)
	}
}

func checkEnded(t *testing.T, f impl.Fabric, seed int64, want endAnswer) {
	t.Helper()
	given := roomyFabric(f)
	was := pictureOfFabric(given)
	fabric, count := impl.Ended(given, seed)
	if got := (endAnswer{fabric, count}); !got.same(want) {
		t.Errorf("Ended(%+v, %d) = %+v, want %+v", f, seed, got, want)
	}
	if pictureOfFabric(given) != was {
		t.Errorf("Ended(%+v, %d) wrote into its argument", f, seed)
	}
}

// noEnd is what Ended answers where something is not as told.
var noEnd = endAnswer{count: -1}

// farSeeds are out of range, on both sides.
var farSeeds = slices.Concat([]int64{-1, -2, -65535, -65536, 65536, 65537, 131071, 131072}, farPicks, noPicks)

// farPicks are far more than there ever are Enabled.
var farPicks = []int64{1 << 31, 1<<32 - 1, 1 << 32, 1<<32 + 1, 1 << 53, math.MaxInt64 / 2, math.MaxInt64 - 2, math.MaxInt64 - 1, math.MaxInt64}

// noPicks are below 0: nothing is picked by them.
var noPicks = []int64{math.MinInt64, math.MinInt64 + 1, math.MinInt64 / 2, -1 << 32, -1<<31 - 1, -256, -7, -6, -5, -4, -3, -2, -1}

// checkNoRun asks all of a fabric that is not right.
func checkNoRun(t *testing.T, why string, f impl.Fabric) {
	t.Helper()
	if fabricRight(f) {
		t.Fatalf("%s: it is right: %+v", why, f)
	}
	for _, n := range []int64{math.MinInt64, -1, 0, 1, 5, 65536, math.MaxInt64} {
		checkPicked(t, f, n, stillFabric(impl.Fabric{}))
	}
	for _, script := range [][]int64{nil, {}, {0}, {-1}, {3, 2, 1, 0}, make([]int64, 600), make([]int64, 601)} {
		checkRan(t, f, script, impl.Fabric{})
	}
	for _, seed := range []int64{math.MinInt64, -1, 0, 1, 65535, 65536, math.MaxInt64} {
		checkEnded(t, f, seed, noEnd)
	}
	checkFinished(t, f, false)
	checkBound(t, f, -1)
	if t.Failed() {
		t.Fatalf("%s", why)
	}
}

// eventfulFabric has all its Cores and the DMA at work about two lines.
func eventfulFabric(cores int64) impl.Fabric {
	c := impl.Config{Cores: cores, Sets: 1, Ways: 1, Lines: 2}
	var programs [][]impl.Op
	for id := range cores {
		programs = append(programs, []impl.Op{{Kind: impl.OpAdd, Addr: id % 2, A: 1 + id}, load(2), {Kind: impl.OpSwap, Addr: 3, A: 5 + id}, load(0)})
	}
	f, _ := impl.NewFabric(c, programs, []impl.Desc{readOf(0), writeOf(1, 3, 7, 8), readOf(1)})
	return f
}

// greatFabric has all that a new fabric can have.
func greatFabric(c impl.Config) impl.Fabric {
	var programs [][]impl.Op
	for range c.Cores {
		programs = append(programs, opsIn(c.Lines, 30))
	}
	f, _ := impl.NewFabric(c, programs, descsIn(c.Lines, 30))
	return f
}

// stillFabrics are right, and none of their actions is Enabled.
func stillFabrics() map[string]impl.Fabric {
	bare := newBy(threeCores, make([][]impl.Op, 3), nil)
	letters := fabricCopy(bare)
	letters.Net = idleLetters(60)
	waits := newBy(threeCores, [][]impl.Op{{load(0)}, {store(1)}, nil}, []impl.Desc{readOf(1)})
	waits.Cores[0].Phase, waits.Cores[1].Phase, waits.Dma.Waits = impl.PhWait, impl.PhWait, true
	evicts := newBy(threeCores, [][]impl.Op{nil, {load(0)}, nil}, nil)
	evicts.Cores[1].Phase, evicts.Cores[1].Held = impl.PhEvict, wayOf(2, 1, 5, 6)
	busyHouse := newBy(threeCores, make([][]impl.Op, 3), nil)
	busyHouse.House.Book[1], busyHouse.Net = busy(owner(1), 2, 0, 1), []impl.Msg{{From: 2, To: 4, Kind: impl.MsRead, Line: 1}}
	full := newBy(threeCores, make([][]impl.Op, 3), nil)
	full.Net, full.Events = []impl.Msg{snapTo(0)}, someEvents(200)
	ended, _ := impl.Ended(eventfulFabric(2), 77)
	return map[string]impl.Fabric{"nothing to do": bare, "letters that nobody hears": letters, "all wait": waits, "one evicts": evicts, "the house is Busy": busyHouse, "no room": full, "at its end": ended}
}

// The number is that of one that is Enabled, not of an action: here of 2, 4, 6, 7 and 9.
func TestRunPickedByHand(t *testing.T) {
	f := mixedFabric()
	for n, action := range []int64{2, 4, 6, 7, 9, 2, 4, 6, 7, 9, 2, 4} {
		checkPicked(t, f, int64(n), acts(f, action))
	}
	for n, action := range map[int64]int64{500: 2, 999: 9, 1 << 32: 4, math.MaxInt64: 6, math.MaxInt64 - 1: 4, math.MaxInt64 - 2: 2, math.MaxInt64 - 3: 9} {
		checkPicked(t, f, n, acts(f, action))
	}
	for _, n := range noPicks {
		checkPicked(t, f, n, stillFabric(f))
	}
}

// Each number below how many are Enabled, just so many, one more, some rounds and far more.
func TestRunPickedEachNumber(t *testing.T) {
	list := []impl.Fabric{mixedFabric(), eventfulFabric(1), eventfulFabric(2), eventfulFabric(3), eventfulFabric(4)}
	for _, n := range []int64{3, 8, 15, 24} {
		list = append(list, runsBy(eventfulFabric(4), slices.Repeat([]int64{n, 2 * n, 0}, int(n))))
	}
	seen := map[int]bool{}
	for _, f := range list {
		enabled := enabledBy(f)
		count := int64(len(enabled))
		seen[len(enabled)] = true
		for n := range 4*count + 3 {
			checkPicked(t, f, n, acts(f, enabled[n%count]))
		}
		for _, n := range farPicks {
			checkPicked(t, f, n, acts(f, enabled[n%count]))
		}
		for _, n := range append(noPicks, -count-1, -count, 1-count) {
			if n < 0 {
				checkPicked(t, f, n, stillFabric(f))
			}
		}
		stopIfFailed(t)
	}
	if len(seen) < 4 {
		t.Errorf("Enabled were only %v", seen)
	}
}

func TestRunPickedWhereNoneIsEnabled(t *testing.T) {
	for name, f := range stillFabrics() {
		if !fabricRight(f) || len(enabledBy(f)) != 0 {
			t.Fatalf("%s: %+v", name, f)
		}
		for _, n := range slices.Concat([]int64{0, 1, 2, 3, 255, 65535}, farPicks, noPicks) {
			checkPicked(t, f, n, stillFabric(f))
		}
		checkRan(t, f, nil, f)
		checkRan(t, f, []int64{0, 1, -1, 2, math.MaxInt64}, f)
		checkRan(t, f, make([]int64, 600), f)
		checkRan(t, f, make([]int64, 601), impl.Fabric{})
		for _, seed := range []int64{0, 1, 65535} {
			checkEnded(t, f, seed, endAnswer{f, 0})
		}
		for _, seed := range farSeeds {
			checkEnded(t, f, seed, noEnd)
		}
	}
}

// A store of two cores from the request to MsDone; by 9 the only one that is Enabled is picked each time.
func TestRunRanByHand(t *testing.T) {
	c := impl.Config{Cores: 2, Sets: 1, Ways: 1, Lines: 2}
	f, _ := impl.NewFabric(c, [][]impl.Op{{{Kind: impl.OpStore, Addr: 1, A: 5}}, nil}, nil)
	nets := [][]impl.Msg{
		nil, {{From: 0, To: 4, Kind: impl.MsWrite}}, {grantTo(0, 0, impl.StM, 0, 0)}, {{Road: 2, From: 0, To: 4, Kind: impl.MsDone}}, nil, nil, nil,
	}
	for length, net := range nets {
		for _, n := range []int64{0, 9, math.MaxInt64} {
			script := slices.Repeat([]int64{n}, length)
			got := impl.Ran(f, script)
			if !sameNet(got.Net, net) || len(got.Events) != map[bool]int{true: 1}[length >= 3] || impl.Finished(got) != (length >= 4) {
				t.Errorf("Ran by %v is %+v", script, got)
			}
			checkRan(t, f, script, runsBy(f, script))
		}
	}
}

// By 1 the second one that is Enabled is picked: who is ahead of the other is told by the script, not by the cores' numbers.
func TestRunRanInOrder(t *testing.T) {
	c := impl.Config{Cores: 2, Sets: 1, Ways: 1, Lines: 1}
	f, _ := impl.NewFabric(c, [][]impl.Op{{{Kind: impl.OpSwap, A: 5}}, {{Kind: impl.OpSwap, A: 6}}}, nil)
	for _, row := range []struct {
		script []int64
		agents []int64
		told   []int64
	}{
		// Core 0's letter, core 1's, then each first letter that can be heard.
		{[]int64{0, 0, 0, 1, 1, 0, 0, 0, 0, 0}, []int64{0, 1}, []int64{0, 5}},
		// Core 1's letter, core 0's, then the same.
		{[]int64{1, 0, 0, 1, 1, 0, 0, 0, 0, 0}, []int64{1, 0}, []int64{0, 6}},
	} {
		got := impl.Ran(f, row.script)
		for i := range got.Events {
			if got.Events[i].Agent != row.agents[i] || got.Events[i].Told != row.told[i] {
				t.Errorf("by %v the Events are %+v", row.script, got.Events)
			}
		}
		if len(got.Events) != 2 {
			t.Errorf("by %v it is %+v", row.script, got)
		}
		checkRan(t, f, row.script, runsBy(f, row.script))
	}
}

func TestRunRanOfShortScripts(t *testing.T) {
	for _, f := range []impl.Fabric{mixedFabric(), eventfulFabric(1), eventfulFabric(4)} {
		checkRan(t, f, nil, f)
		checkRan(t, f, []int64{}, f)
		for n := range int64(12) {
			checkRan(t, f, []int64{n}, picksBy(f, n).fabric)
			checkRan(t, f, []int64{n, n + 1}, picksBy(picksBy(f, n).fabric, n+1).fabric)
		}
		for _, n := range farPicks {
			checkRan(t, f, []int64{n}, picksBy(f, n).fabric)
		}
	}
}

// By a number below 0 nothing is picked, wherever it stands: the other ones go on as if it were not there.
func TestRunRanByNumbersBelowNought(t *testing.T) {
	for _, f := range []impl.Fabric{mixedFabric(), eventfulFabric(2), eventfulFabric(4)} {
		for _, n := range noPicks {
			checkRan(t, f, []int64{n}, f)
			checkRan(t, f, []int64{n, 3, 1, 2}, runsBy(f, []int64{3, 1, 2}))
			checkRan(t, f, []int64{3, n, 1, n, n, 2}, runsBy(f, []int64{3, 1, 2}))
			checkRan(t, f, []int64{3, 1, 2, n}, runsBy(f, []int64{3, 1, 2}))
		}
		checkRan(t, f, slices.Repeat([]int64{-1}, 600), f)
		checkRan(t, f, slices.Repeat([]int64{-1}, 601), impl.Fabric{})
		checkRan(t, f, append(slices.Repeat([]int64{-1}, 599), 4), runsBy(f, []int64{4}))
	}
}

// mixedScript has numbers that are small, great and far, told by dice.
func (d *dice) mixedScript(length int) []int64 {
	var script []int64
	for range length {
		switch d.roll(5) {
		case 0:
			script = append(script, d.roll(3))
		case 1:
			script = append(script, farPicks[d.roll(int64(len(farPicks)))])
		default:
			script = append(script, d.roll(100000))
		}
	}
	return script
}

// 600 picks are right, and each of them counts; one more is refused, whatever the numbers are.
func TestRunRanOfTheLongestScripts(t *testing.T) {
	d := &dice{16}
	f := greatFabric(impl.Config{Cores: 4, Sets: 1, Ways: 2, Lines: 16})
	for _, script := range [][]int64{make([]int64, 600), d.mixedScript(600), d.mixedScript(600)} {
		near := runsBy(f, script[:599])
		last := picksBy(near, script[599])
		if !last.is || sameFabric(near, last.fabric) {
			t.Fatalf("it is at its end behind 599 picks: %+v", near)
		}
		checkRan(t, f, script[:598], runsBy(f, script[:598]))
		checkRan(t, f, script[:599], near)
		checkRan(t, f, script, last.fabric)
		for _, more := range []int64{0, 1, -1, math.MinInt64, math.MaxInt64} {
			checkRan(t, f, append(slices.Clone(script), more), impl.Fabric{})
		}
		checkRan(t, f, slices.Repeat(script, 2), impl.Fabric{})
		stopIfFailed(t)
	}
	for _, length := range []int{601, 602, 856, 1000, 3000, 65536 + 600, 1 << 20} {
		if got := impl.Ran(f, make([]int64, length)); !sameFabric(got, impl.Fabric{}) {
			t.Errorf("by %d numbers it is %+v", length, got)
		}
	}
}

// A script goes on where none is Enabled any more: it stays as it is.
func TestRunRanPastTheEnd(t *testing.T) {
	d := &dice{17}
	for range 25 {
		f := d.newFabric(t, 4, 3)
		script := d.mixedScript(600)
		end := runsBy(f, script)
		if len(impl.Enabled(end)) != 0 || !finishedBy(end) {
			t.Fatalf("behind 600 picks it is %+v", end)
		}
		checkRan(t, f, script, end)
		checkRan(t, end, script, end)
		checkAtItsEnd(t, end)
	}
}

// What is left of one script is another one.
func TestRunRanInParts(t *testing.T) {
	d := &dice{18}
	for range 20 {
		f := d.newFabric(t, 4, 5)
		script := d.mixedScript(60)
		whole := impl.Ran(f, script)
		for _, cut := range []int{0, 1, 2, 29, 58, 59, 60} {
			if got := impl.Ran(impl.Ran(f, script[:cut]), script[cut:]); !sameFabric(got, whole) {
				t.Fatalf("in two parts, of %d and the rest, it is %+v, want %+v", cut, got, whole)
			}
		}
		one := f
		for _, n := range script {
			one, _ = impl.Picked(one, n)
		}
		if !sameFabric(one, whole) {
			t.Fatalf("one by one it is %+v, want %+v", one, whole)
		}
	}
}

func TestRunFinishedByHand(t *testing.T) {
	bare := func() impl.Fabric { return newBy(threeCores, make([][]impl.Op, 3), nil) }
	rows := []struct {
		why  string
		turn func(f *impl.Fabric)
		want bool
	}{
		{"nothing to do", func(f *impl.Fabric) {}, true},
		{"lists that are empty, not nil", func(f *impl.Fabric) {
			f.Net, f.Dma.Program, f.Cores[1].Program = []impl.Msg{}, []impl.Desc{}, []impl.Op{}
		}, true},
		{"core 0 has an Op", func(f *impl.Fabric) { f.Cores[0].Program = []impl.Op{load(0)} }, false},
		{"core 1 has an Op", func(f *impl.Fabric) { f.Cores[1].Program = []impl.Op{load(0)} }, false},
		{"core 2 has an Op", func(f *impl.Fabric) { f.Cores[2].Program = []impl.Op{load(0)} }, false},
		{"the DMA has a Desc", func(f *impl.Fabric) { f.Dma.Program = []impl.Desc{readOf(0)} }, false},
		{"the DMA has a Desc that writes", func(f *impl.Fabric) { f.Dma.Program = []impl.Desc{writeOf(0, 1, 2, 3)} }, false},
		{"core 0 waits", func(f *impl.Fabric) { f.Cores[0].Program, f.Cores[0].Phase = []impl.Op{load(0)}, impl.PhWait }, false},
		{"the DMA waits", func(f *impl.Fabric) { f.Dma.Program, f.Dma.Waits = []impl.Desc{readOf(0)}, true }, false},
		{"core 2 is at its end", func(f *impl.Fabric) { f.Cores[2] = behindLoads(1, f.Cores[2], 5, 6) }, true},
		{"all cores are at their ends", func(f *impl.Fabric) {
			for i := range f.Cores {
				f.Cores[i] = behindLoads(1, f.Cores[i], slices.Repeat([]int64{7}, 30)...)
			}
		}, true},
		{"core 2 is just ahead of its end", func(f *impl.Fabric) {
			f.Cores[2] = behindLoads(1, f.Cores[2], slices.Repeat([]int64{7}, 29)...)
			f.Cores[2].Program = append(f.Cores[2].Program, load(2))
		}, false},
		{"the DMA is at its end", func(f *impl.Fabric) {
			f.Dma = impl.Dma{Program: []impl.Desc{readOf(1), writeOf(1, 1, 2, 3)}, At: 2, Told: [][]int64{{1, 2}, nil}}
		}, true},
		{"the DMA is just ahead of its end", func(f *impl.Fabric) {
			f.Dma = impl.Dma{Program: []impl.Desc{readOf(1), writeOf(1, 1, 2, 3)}, At: 1, Told: [][]int64{{1, 2}}}
		}, false},
		{"a letter that nobody hears", func(f *impl.Fabric) { f.Net = idleLetters(1) }, false},
		{"as many letters as there may be", func(f *impl.Fabric) { f.Net = idleLetters(60) }, false},
		{"a letter that is heard", func(f *impl.Fabric) { f.Net = []impl.Msg{fetchTo(0, 0)} }, false},
		{"MsDone is on its way", func(f *impl.Fabric) {
			f.Cores[0] = behindLoads(0, f.Cores[0], 0)
			f.House.Book[0], f.Net = busy(owner(0), 1, 0, 0), []impl.Msg{{Road: 2, From: 0, To: 4, Kind: impl.MsDone}}
		}, false},
		{"the house is Busy still, of which nothing is asked", func(f *impl.Fabric) { f.House.Book[0] = busy(owner(0), 1, 0, 0) }, true},
		{"lines are in the Caches", func(f *impl.Fabric) { f.Cores[0].Cache.Sets[1][0] = wayOf(1, 3, 5, 6) }, true},
		{"at its end one evicts still, of which nothing is asked", func(f *impl.Fabric) { f.Cores[1].Phase, f.Cores[1].Held = impl.PhEvict, wayOf(2, 1, 5, 6) }, true},
		{"200 Events", func(f *impl.Fabric) { f.Events = someEvents(200) }, true},
		{"201 Events", func(f *impl.Fabric) { f.Events = someEvents(201) }, false},
		{"no Cores", func(f *impl.Fabric) { f.Cores = nil }, false},
		{"no house", func(f *impl.Fabric) { f.House = impl.House{} }, false},
	}
	for _, r := range rows {
		f := bare()
		r.turn(&f)
		checkFinished(t, f, r.want)
		if t.Failed() {
			t.Fatalf("%s", r.why)
		}
	}
}

// A new fabric is Finished just where it has nothing to do.
func TestRunFinishedOfNewFabrics(t *testing.T) {
	for cores := int64(1); cores <= 4; cores++ {
		c := impl.Config{Cores: cores, Sets: 2, Ways: 1, Lines: 3}
		for has := range int64(1) << (cores + 1) {
			programs := make([][]impl.Op, cores)
			for id := range cores {
				if has>>id&1 == 1 {
					programs[id] = opsIn(3, 1+int(id))
				}
			}
			list := descsIn(3, int(has>>cores))
			f, code := impl.NewFabric(c, programs, list)
			if code != impl.PgOk {
				t.Fatalf("NewFabric(%+v, %+v, %+v) is refused by %d", c, programs, list, code)
			}
			checkFinished(t, f, has == 0)
			end := endsBy(f, has).fabric
			checkFinished(t, end, true)
			checkBound(t, end, impl.Bound(f))
			// At its end a letter comes once more.
			end.Net = []impl.Msg{fetchTo(0, 2)}
			checkFinished(t, end, false)
		}
	}
}

// The programs are at their end while the last letter is on its way; it is told from being Finished only by that.
func TestRunFinishedWaitsForTheLastLetter(t *testing.T) {
	f := newBy(impl.Config{Cores: 1, Sets: 1, Ways: 1, Lines: 1}, [][]impl.Op{{load(0)}}, nil)
	for i, want := range []bool{false, false, false, false, true} {
		if i == 3 && (f.Cores[0].At != 1 || len(f.Net) != 1 || f.Net[0].Kind != impl.MsDone) {
			t.Fatalf("ahead of the last letter it is %+v", f)
		}
		checkFinished(t, f, want)
		f = picksBy(f, 0).fabric
	}
}

func TestRunBoundByHand(t *testing.T) {
	rows := []struct {
		cores int64
		ops   []int
		descs int
		want  int64
	}{
		{1, []int{0}, 0, 0}, {1, []int{1}, 0, 9}, {1, []int{0}, 1, 9}, {1, []int{1}, 1, 18}, {1, []int{30}, 0, 270}, {1, []int{30}, 30, 540},
		{2, []int{0, 0}, 0, 0}, {2, []int{1, 0}, 0, 11}, {2, []int{0, 1}, 0, 11}, {2, []int{0, 0}, 1, 11}, {2, []int{3, 4}, 5, 132}, {2, []int{30, 30}, 0, 660}, {2, []int{30, 30}, 30, 990},
		{3, []int{0, 0, 0}, 0, 0}, {3, []int{0, 0, 1}, 0, 13}, {3, []int{1, 2, 3}, 4, 130}, {3, []int{0, 0, 0}, 30, 390}, {3, []int{30, 30, 30}, 30, 1560},
		{4, []int{0, 0, 0, 0}, 0, 0}, {4, []int{0, 0, 0, 1}, 0, 15}, {4, []int{0, 0, 0, 0}, 2, 30}, {4, []int{5, 6, 7, 8}, 9, 525}, {4, []int{30, 30, 30, 30}, 0, 1800}, {4, []int{30, 30, 30, 30}, 30, 2250},
	}
	for _, r := range rows {
		for _, sizes := range [][2]int64{{1, 1}, {4, 2}} {
			for _, lines := range []int64{1, 5, 16} {
				var programs [][]impl.Op
				for _, length := range r.ops {
					programs = append(programs, opsIn(lines, length))
				}
				f, code := impl.NewFabric(impl.Config{Cores: r.cores, Sets: sizes[0], Ways: sizes[1], Lines: lines}, programs, descsIn(lines, r.descs))
				if code != impl.PgOk {
					t.Fatalf("%+v is refused by %d", r, code)
				}
				checkBound(t, f, r.want)
			}
		}
	}
	// What is done already counts, letters and Events do not.
	mixed := mixedFabric()
	checkBound(t, mixed, (3+1+2+3)*13)
	mixed.Net, mixed.Events = idleLetters(60), someEvents(200)
	checkBound(t, mixed, (3+1+2+3)*13)
}

// It is the same all the way, from the new fabric to its end.
func TestRunBoundStaysMidway(t *testing.T) {
	for cores := int64(1); cores <= 4; cores++ {
		f := eventfulFabric(cores)
		want := (4*cores + 3) * (7 + 2*cores)
		for n := int64(1); ; n = seedNext(n) {
			checkBound(t, f, want)
			answer := picksBy(f, n)
			if !answer.is {
				break
			}
			f = answer.fabric
		}
		checkFinished(t, f, true)
	}
}

// The numbers by hand: 0, then 13849, then 25173 times that and 13849 modulo 65536; and those from 65535 on.
func TestRunEndedByHand(t *testing.T) {
	rows := []struct {
		seed    int64
		numbers []int64
	}{
		{0, []int64{0, 13849, 48742, 31223, 17180, 13925, 61346, 51939}},
		{65535, []int64{65535, 54212, 36397, 42250}},
	}
	for _, r := range rows {
		x := r.seed
		for i, n := range r.numbers {
			if n != x {
				t.Fatalf("number %d from %d on is %d, not %d", i, r.seed, x, n)
			}
			x = (25173*x + 13849) % 65536
		}
	}
	c := impl.Config{Cores: 2, Sets: 1, Ways: 1, Lines: 2}
	f, _ := impl.NewFabric(c, [][]impl.Op{{store(0)}, {store(2)}}, nil)
	got, count := impl.Ended(f, 0)
	if want := impl.Ran(f, rows[0].numbers); count != 8 || !sameFabric(got, want) || !impl.Finished(got) {
		t.Errorf("Ended from 0 on is %+v, %d, want %+v", got, count, want)
	}
	if near := impl.Ran(f, rows[0].numbers[:7]); impl.Finished(near) {
		t.Errorf("it is Finished too early: %+v", near)
	}
	f, _ = impl.NewFabric(c, [][]impl.Op{nil, {store(2)}}, nil)
	got, count = impl.Ended(f, 65535)
	if want := impl.Ran(f, rows[1].numbers); count != 4 || !sameFabric(got, want) || !impl.Finished(got) {
		t.Errorf("Ended from 65535 on is %+v, %d, want %+v", got, count, want)
	}
}

func TestRunEndedOfSeeds(t *testing.T) {
	list := []impl.Fabric{mixedFabric(), eventfulFabric(1), eventfulFabric(2), eventfulFabric(3), eventfulFabric(4)}
	for _, f := range list {
		for _, seed := range []int64{0, 1, 2, 3, 255, 256, 32767, 32768, 65534, 65535} {
			checkEnded(t, f, seed, endsBy(f, seed))
		}
		for _, seed := range farSeeds {
			checkEnded(t, f, seed, noEnd)
		}
		stopIfFailed(t)
	}
}

// How many it tells: by just so many of the numbers it comes to its end, and by one less it does not.
func TestRunEndedTellsHowMany(t *testing.T) {
	d := &dice{19}
	most := int64(0)
	for range 60 {
		f := d.newFabric(t, 5, 6)
		seed := d.roll(65536)
		want := endsBy(f, seed)
		checkEnded(t, f, seed, want)
		most = max(most, want.count)
		if want.count > 600 || want.count > impl.Bound(f) || len(impl.Enabled(want.fabric)) != 0 || !impl.Finished(want.fabric) {
			t.Fatalf("Ended(%+v, %d) = %+v", f, seed, want)
		}
		var script []int64
		for x := seed; int64(len(script)) < want.count; x = seedNext(x) {
			script = append(script, x)
		}
		checkRan(t, f, script, want.fabric)
		if len(script) > 0 && impl.Finished(impl.Ran(f, script[:len(script)-1])) {
			t.Errorf("it is Finished by less than %d: %+v", want.count, f)
		}
		checkEnded(t, want.fabric, seed, endAnswer{want.fabric, 0})
		checkAtItsEnd(t, want.fabric)
		stopIfFailed(t)
	}
	if most < 100 {
		t.Errorf("the longest run has only %d steps", most)
	}
}

// Runs that are longer than any script may be come to their ends too.
func TestRunEndedOfTheGreatest(t *testing.T) {
	for _, lines := range []int64{2, 16} {
		f := greatFabric(impl.Config{Cores: 4, Sets: 1, Ways: 1, Lines: lines})
		for _, seed := range []int64{0, 65535} {
			want := endsBy(f, seed)
			checkEnded(t, f, seed, want)
			if want.count <= 600 || want.count > 2250 || !impl.Finished(want.fabric) || len(want.fabric.Events) != 150 {
				t.Errorf("of %d Lines from %d on it is %d", lines, seed, want.count)
			}
			checkAtItsEnd(t, want.fabric)
		}
	}
}

// Of any right fabric all is as the text over again has it, also where it never is Finished.
func TestRunOfAnyRightFabric(t *testing.T) {
	d := &dice{20}
	seen := map[bool]int{}
	for range 40 {
		f := d.anyFabric()
		n := d.roll(200) - 10
		checkPicked(t, f, n, picksBy(f, n))
		script := d.mixedScript(int(d.roll(12)))
		checkRan(t, f, script, runsBy(f, script))
		checkFinished(t, f, finishedBy(f))
		checkBound(t, f, boundBy(f))
		seed := d.roll(65536)
		want := endsBy(f, seed)
		checkEnded(t, f, seed, want)
		checkFinished(t, want.fabric, finishedBy(want.fabric))
		seen[finishedBy(want.fabric)]++
		stopIfFailed(t)
	}
	if seen[false] < 10 {
		t.Errorf("Finished in the end: %v", seen)
	}
}

// picker picks one of those that are Enabled, by its place among them.
type picker struct {
	name string
	pick func(f impl.Fabric, enabled []int64) int64
}

// pickers are of all kinds: by dice, and such as let one of them wait as long as can be.
func pickers(d *dice) []picker {
	most := func(worth func(f impl.Fabric, action int64) int64) func(f impl.Fabric, enabled []int64) int64 {
		return func(f impl.Fabric, enabled []int64) int64 {
			best := 0
			for i, action := range enabled {
				if worth(f, action) > worth(f, enabled[best]) {
					best = i
				}
			}
			return int64(best)
		}
	}
	letterOf := func(f impl.Fabric, action int64) impl.Msg {
		if action <= f.Config.Cores {
			return impl.Msg{}
		}
		return f.Net[action-f.Config.Cores-1]
	}
	list := []picker{
		{"by dice", func(f impl.Fabric, enabled []int64) int64 { return d.roll(int64(len(enabled))) }},
		{"by great dice", func(f impl.Fabric, enabled []int64) int64 { return d.roll(1 << 31) }},
		{"the first", func(f impl.Fabric, enabled []int64) int64 { return 0 }},
		{"the last", func(f impl.Fabric, enabled []int64) int64 { return int64(len(enabled)) - 1 }},
		{"the oldest letter first", most(func(f impl.Fabric, action int64) int64 {
			return map[bool]int64{true: 1000 - action}[action > f.Config.Cores]
		})},
		{"letters of low Kinds first", most(func(f impl.Fabric, action int64) int64 { return -letterOf(f, action).Kind })},
		{"letters of high Kinds first", most(func(f impl.Fabric, action int64) int64 { return letterOf(f, action).Kind })},
		{"what is to the house last", most(func(f impl.Fabric, action int64) int64 {
			return map[bool]int64{true: -1}[letterOf(f, action).To == impl.Home]
		})},
	}
	for agent := range int64(6) {
		list = append(list, picker{fmt.Sprintf("agent %d last", agent), most(func(f impl.Fabric, action int64) int64 {
			m := letterOf(f, action)
			own := action == agent || m.Kind != 0 && (m.From == agent || m.To == agent) || agent == impl.Port && action == f.Config.Cores
			return map[bool]int64{true: -1}[own]
		})})
	}
	return list
}

// checkWalk is promise 16 of one walk: till it is Finished one is Enabled, and it is after at most Bound. It hands back how many steps there were.
func checkWalk(t *testing.T, f impl.Fabric, p picker) int64 {
	t.Helper()
	bound := boundBy(f)
	if impl.Bound(f) != bound {
		t.Fatalf("Bound(%+v) = %d, want %d", f, impl.Bound(f), bound)
	}
	for steps := int64(0); ; steps++ {
		enabled := impl.Enabled(f)
		finished := impl.Finished(f)
		if finished != finishedBy(f) {
			t.Fatalf("Finished(%+v) = %v", f, finished)
		}
		if finished != (len(enabled) == 0) {
			t.Fatalf("%s: behind %d steps Enabled are %v, and it is %+v", p.name, steps, enabled, f)
		}
		if steps > bound {
			t.Fatalf("%s: behind %d steps, with Bound %d, it is %+v", p.name, steps, bound, f)
		}
		if finished {
			checkAtItsEnd(t, f)
			return steps
		}
		n := p.pick(f, enabled)
		want, _ := impl.Acted(f, enabled[n%int64(len(enabled))])
		got, is := impl.Picked(f, n)
		if !is || !sameFabric(got, want) {
			t.Fatalf("%s: Picked(%+v, %d) = %+v, %v", p.name, f, n, got, is)
		}
		f = got
	}
}

// Promise 16: nobody waits for ever, whatever is picked.
func TestRunNobodyWaitsForEver(t *testing.T) {
	d := &dice{21}
	longest := int64(0)
	for range 25 {
		f := d.newFabric(t, 6, 9)
		for _, p := range pickers(d) {
			longest = max(longest, checkWalk(t, f, p))
			stopIfFailed(t)
		}
	}
	if longest < 100 {
		t.Errorf("the longest walk has only %d steps", longest)
	}
}

// Small stores and few lines: all want the same ones, and let go of them again and again.
func TestRunNobodyWaitsForEverAboutFewLines(t *testing.T) {
	d := &dice{22}
	for cores := int64(1); cores <= 4; cores++ {
		for lines := int64(1); lines <= 3; lines++ {
			for range 3 {
				c := impl.Config{Cores: cores, Sets: 1, Ways: 1, Lines: lines}
				var programs [][]impl.Op
				for range cores {
					programs = append(programs, d.program(lines, 8))
				}
				f, _ := impl.NewFabric(c, programs, d.descs(lines, 6))
				for _, p := range pickers(d) {
					checkWalk(t, f, p)
				}
			}
		}
	}
}

func TestRunNobodyWaitsForEverOfTheGreatest(t *testing.T) {
	d := &dice{23}
	for i, c := range []impl.Config{{Cores: 4, Sets: 1, Ways: 1, Lines: 3}, {Cores: 4, Sets: 2, Ways: 2, Lines: 16}, {Cores: 3, Sets: 1, Ways: 1, Lines: 1}, {Cores: 1, Sets: 1, Ways: 1, Lines: 16}} {
		f := greatFabric(c)
		for _, p := range pickers(d)[i : i+3] {
			if steps := checkWalk(t, f, p); steps < 200 {
				t.Errorf("%s: it has only %d steps", p.name, steps)
			}
		}
	}
}

// valueOf tells all of a fabric that what is still to come can hang on: its Events only by how many there are.
func valueOf(f impl.Fabric) string {
	told := fmt.Sprint(f.Config, f.House, f.Dma, f.Net, len(f.Events))
	for _, c := range f.Cores {
		told += fmt.Sprint(c.Cache, c.At, c.Phase, c.Held, c.Told)
	}
	return told
}

// longestWay is how many steps there are at most from here on, whatever is picked; seen has what was looked at.
func longestWay(t *testing.T, f impl.Fabric, seen map[string]int64) int64 {
	t.Helper()
	key := valueOf(f)
	if steps, is := seen[key]; is {
		if steps < 0 {
			t.Fatalf("it comes back to where it was: %+v", f)
		}
		return steps
	}
	seen[key] = -1
	enabled := impl.Enabled(f)
	if impl.Finished(f) != (len(enabled) == 0) {
		t.Fatalf("Enabled are %v, and Finished is %v: %+v", enabled, impl.Finished(f), f)
	}
	most := int64(0)
	for n := range enabled {
		then, is := impl.Picked(f, int64(n))
		if !is {
			t.Fatalf("Picked(%+v, %d) is false", f, n)
		}
		most = max(most, 1+longestWay(t, then, seen))
	}
	seen[key] = most
	return most
}

// Promise 16 of some small fabrics, by each pick that there can be: everything that can come of them is looked at. How long the longest way is stands by hand where there is but one core: an Op that is there is 1 step, one that is asked for 4 (a request, a grant, the Op, MsDone), one that another line must go for 7; of the DMA one that nobody has is 3, and 2 more of each that is asked.
func TestRunNobodyWaitsForEverByEachPick(t *testing.T) {
	one := impl.Config{Cores: 1, Sets: 1, Ways: 1, Lines: 2}
	two := impl.Config{Cores: 2, Sets: 1, Ways: 1, Lines: 2}
	three := impl.Config{Cores: 3, Sets: 1, Ways: 1, Lines: 1}
	rows := []struct {
		c        impl.Config
		programs [][]impl.Op
		list     []impl.Desc
		longest  int64
	}{
		{one, [][]impl.Op{nil}, nil, 0},
		{one, [][]impl.Op{{load(0)}}, nil, 4},
		{one, [][]impl.Op{{load(0), store(1)}}, nil, 5},
		{one, [][]impl.Op{{load(0), store(2)}}, nil, 11},
		{one, [][]impl.Op{{load(0), store(2), load(1)}}, nil, 18},
		{one, [][]impl.Op{nil}, []impl.Desc{readOf(0), writeOf(1, 3, 5, 6)}, 6},
		{one, [][]impl.Op{{store(0)}}, []impl.Desc{readOf(0)}, 9},
		{one, [][]impl.Op{{store(0)}}, []impl.Desc{readOf(1)}, 7},
		{two, [][]impl.Op{{store(0)}, {store(2)}}, nil, 8},
		{two, [][]impl.Op{{store(0)}, {store(0)}}, nil, 10},
		{two, [][]impl.Op{{store(0)}, {load(1)}}, []impl.Desc{writeOf(0, 1, 5, 6)}, -1},
		{two, [][]impl.Op{{load(0), store(2)}, {store(2), load(1)}}, nil, -1},
		{two, [][]impl.Op{{load(0), store(1)}, {load(1), store(0)}}, []impl.Desc{readOf(0)}, -1},
		{two, [][]impl.Op{{store(0), load(2), store(1)}, {store(2), load(0), store(3)}}, []impl.Desc{writeOf(0, 1, 5, 6)}, -1},
		{three, [][]impl.Op{{load(0)}, {load(1)}, {store(0)}}, nil, -1},
		{three, [][]impl.Op{{load(0), store(1)}, {load(1)}, {store(0)}}, []impl.Desc{readOf(0)}, -1},
	}
	for i, r := range rows {
		f, code := impl.NewFabric(r.c, r.programs, r.list)
		seen := map[string]int64{}
		longest := longestWay(t, f, seen)
		if code != impl.PgOk || longest > impl.Bound(f) || r.longest >= 0 && longest != r.longest {
			t.Errorf("row %d: the longest way is %d, with Bound %d, want %d", i, longest, impl.Bound(f), r.longest)
		}
	}
}

// wrongToRun has a fabric that is not right for each reason that the chapter of the fabric names.
func wrongToRun() []wrongFabric {
	return []wrongFabric{
		{"the zero Fabric", func(f *impl.Fabric) { *f = impl.Fabric{} }},
		{"lists of nothing", func(f *impl.Fabric) {
			*f = impl.Fabric{Cores: []impl.Core{}, Net: []impl.Msg{}, Events: []impl.Event{}}
		}},
		{"only a layout", func(f *impl.Fabric) { *f = impl.Fabric{Config: threeCores} }},
		{"no Cores in the layout", func(f *impl.Fabric) { f.Config.Cores = 0 }},
		{"more Cores in the layout", func(f *impl.Fabric) { f.Config.Cores = 4 }},
		{"far Cores in the layout", func(f *impl.Fabric) { f.Config.Cores = math.MaxInt64 }},
		{"other Sets", func(f *impl.Fabric) { f.Config.Sets = 1 }},
		{"other Ways", func(f *impl.Fabric) { f.Config.Ways = 4 }},
		{"other Lines", func(f *impl.Fabric) { f.Config.Lines = 6 }},
		{"far Lines", func(f *impl.Fabric) { f.Config.Lines = math.MinInt64 }},
		{"no house", func(f *impl.Fabric) { f.House = impl.House{} }},
		{"a word too great", func(f *impl.Fabric) { f.House.Memory[4][1] = 10000 }},
		{"an Owner and Sharers", func(f *impl.Fabric) { f.House.Book[1].Sharers = 1 }},
		{"Owner 3 of three", func(f *impl.Fabric) { f.House.Book[1].Owner = 3 }},
		{"no Cores", func(f *impl.Fabric) { f.Cores = nil }},
		{"a core too few", func(f *impl.Fabric) { f.Cores = f.Cores[:2] }},
		{"a core too many", func(f *impl.Fabric) { f.Cores = append(f.Cores, f.Cores[2]) }},
		{"the zero Core", func(f *impl.Fabric) { f.Cores[2] = impl.Core{} }},
		{"At past the end", func(f *impl.Fabric) { f.Cores[2].At = 3 }},
		{"a far At", func(f *impl.Fabric) { f.Cores[2].At = math.MaxInt64 }},
		{"31 Ops", func(f *impl.Fabric) { f.Cores[2].Program = opsIn(5, 31) }},
		{"an Op that is none", func(f *impl.Fabric) { f.Cores[0].Program[2].Kind = 9 }},
		{"an Op out of the Lines", func(f *impl.Fabric) { f.Cores[0].Program[2].Addr = 10 }},
		{"a line out of the Lines in a Cache", func(f *impl.Fabric) { f.Cores[0].Cache.Sets[1][1] = wayOf(5, 1, 1, 2) }},
		{"a line out of the Lines Held", func(f *impl.Fabric) { f.Cores[1].Held.Line = 6 }},
		{"31 Descs", func(f *impl.Fabric) { f.Dma = impl.Dma{Program: descsIn(5, 31)} }},
		{"a Desc that is none", func(f *impl.Fabric) { f.Dma.Program[2].Mask = 1 }},
		{"a Desc out of the Lines", func(f *impl.Fabric) { f.Dma.Program[2].Line = 5 }},
		{"the DMA waits for nothing", func(f *impl.Fabric) { f.Dma = impl.Dma{Waits: true} }},
		{"a letter from nobody", func(f *impl.Fabric) { f.Net[0].From = 3 }},
		{"a letter of no line", func(f *impl.Fabric) { f.Net[5].Line = 5 }},
		{"the zero letter", func(f *impl.Fabric) { f.Net = []impl.Msg{{}} }},
		{"61 letters", func(f *impl.Fabric) { f.Net = idleLetters(61) }},
		{"201 Events", func(f *impl.Fabric) { f.Events = someEvents(201) }},
		{"an Event that is none", func(f *impl.Fabric) { f.Events[1].Op = impl.Op{} }},
	}
}

func TestRunOfWrongFabrics(t *testing.T) {
	for _, r := range wrongToRun() {
		f := mixedFabric()
		r.turn(&f)
		checkNoRun(t, r.why, f)
	}
	for _, bad := range noLayouts {
		f := mixedFabric()
		f.Config = bad
		checkNoRun(t, "a layout that is not right", f)
	}
	for _, n := range farNumbers {
		checkNoRun(t, "far numbers", impl.Fabric{Config: impl.Config{Cores: n, Sets: n, Ways: n, Lines: n}, Dma: impl.Dma{At: n}, Net: []impl.Msg{{Road: n, From: n, To: n, Kind: n, Line: n, Flag: n}}, Events: []impl.Event{{Agent: n, Line: n, Mask: n, Told: n}}})
	}
	for i, r := range wrongFabricEvents() {
		f := mixedFabric()
		f.Events = append(f.Events, r.e)
		if i%20 == 0 {
			checkNoRun(t, r.why, f)
		}
	}
	// One that is at its end, but for this, is not Finished either.
	end := endsBy(eventfulFabric(3), 5).fabric
	end.Config.Lines = 3
	checkNoRun(t, "other Lines at its end", end)
}

// Lists that are nil and such as are empty are the same.
func TestRunOfListsThatAreNil(t *testing.T) {
	bare := newBy(threeCores, make([][]impl.Op, 3), nil)
	wide := fabricCopy(bare)
	wide.Dma = impl.Dma{Program: []impl.Desc{}, Told: [][]int64{}}
	wide.Net, wide.Events = []impl.Msg{}, []impl.Event{}
	for i := range wide.Cores {
		wide.Cores[i].Program, wide.Cores[i].Told, wide.Cores[i].Held.Data = []impl.Op{}, []int64{}, []int64{}
	}
	for _, f := range []impl.Fabric{bare, wide} {
		for _, script := range [][]int64{nil, {}, {0}, {-1, 5}} {
			if got := impl.Ran(f, script); !sameFabric(got, bare) {
				t.Errorf("Ran(%+v, %v) = %+v", f, script, got)
			}
		}
		if got, is := impl.Picked(f, 0); is || !sameFabric(got, bare) {
			t.Errorf("Picked(%+v, 0) = %+v, %v", f, got, is)
		}
		if got, count := impl.Ended(f, 0); count != 0 || !sameFabric(got, bare) {
			t.Errorf("Ended(%+v, 0) = %+v, %d", f, got, count)
		}
		if !impl.Finished(f) || impl.Bound(f) != 0 {
			t.Errorf("Finished(%+v) = %v, Bound %d", f, impl.Finished(f), impl.Bound(f))
		}
	}
}

// runAnswers are all fabrics that the functions of running answer of this one.
func runAnswers(f impl.Fabric, script []int64) []impl.Fabric {
	var list []impl.Fabric
	for _, n := range []int64{-1, 0, 1, 2, 7} {
		got, _ := impl.Picked(f, n)
		list = append(list, got)
	}
	for _, length := range []int{0, 1, len(script) / 2, len(script)} {
		list = append(list, impl.Ran(f, script[:length]))
	}
	for _, seed := range []int64{-1, 0, 65535, 65536} {
		got, _ := impl.Ended(f, seed)
		list = append(list, got)
	}
	return list
}

// What is answered shares nothing with what was given, nor with another answer, nor any two lists of it with each other.
func TestRunAnswersAreNewMemory(t *testing.T) {
	d := &dice{24}
	list := []impl.Fabric{mixedFabric(), eventfulFabric(3), {}, {Config: threeCores, Net: idleLetters(3), Events: someEvents(5)}}
	for _, f := range stillFabrics() {
		list = append(list, f)
	}
	for range 6 {
		list = append(list, d.anyFabric())
	}
	for _, f := range list {
		given, script := roomyFabric(f), roomy([]int64{3, -1, 1, 4, 1, 5})
		was := pictureOfFabric(given)
		answers := runAnswers(given, script)
		for _, got := range answers {
			checkRoomsApart(t, "an answer of running", got, given, script)
		}
		checkRoomsApart(t, "the answers of running", answers[:7], given, script)
		again := runAnswers(given, script)
		for _, got := range again {
			spoilFabric(got)
		}
		if pictureOfFabric(given) != was || !untouched(script, []int64{3, -1, 1, 4, 1, 5}) {
			t.Fatalf("running answers with memory of its argument: %+v", f)
		}
		spoilFabric(given)
		spoil(script)
		for i, want := range runAnswers(f, []int64{3, -1, 1, 4, 1, 5}) {
			if !sameFabric(answers[i], want) {
				t.Fatalf("answer %d changes with what was given: %+v", i, f)
			}
		}
	}
}

// What is given may share memory, all with all: what is answered does not.
func TestRunOfArgumentsThatShare(t *testing.T) {
	one := []int64{3, 1}
	core := behindLoads(8, idle(emptyStore(2, 2), store(2), load(0)), 3, 1)
	core.Told = one
	f := impl.Fabric{
		Config: threeCores,
		House:  impl.House{Memory: [][]int64{one, one, one, one, one}, Book: make([]impl.Entry, 5)},
		Cores:  []impl.Core{core, core, core},
		Dma:    impl.Dma{Program: []impl.Desc{readOf(1), {Write: true, Line: 1, Mask: 3, Data: one}, readOf(0)}, At: 1, Told: [][]int64{one}},
		Events: []impl.Event{{Agent: 5, Line: 1, Data: one}, {Agent: 5, Line: 1, Data: one}},
	}
	for i := range f.House.Book {
		f.House.Book[i] = nobody()
	}
	apart := fabricCopy(f)
	want := runAnswers(apart, []int64{3, 1})
	for i, got := range runAnswers(f, one) {
		if !sameFabric(got, want[i]) {
			t.Errorf("answer %d is %+v, want %+v", i, got, want[i])
		}
		checkRoomsApart(t, "an answer of running", got, f, one)
	}
	if !slices.Equal(one, []int64{3, 1}) || !sameFabric(f, apart) {
		t.Errorf("running wrote into its argument: %v", one)
	}
	if end, count := impl.Ended(f, 9); count < 20 || !impl.Finished(end) {
		t.Errorf("Ended is %+v, %d", end, count)
	}
}

// One fabric may be run many times: it stays as it was, and each time it answers the same.
func TestRunStaysWhatItWas(t *testing.T) {
	f := roomyFabric(eventfulFabric(4))
	was := pictureOfFabric(f)
	want, count := impl.Ended(f, 123)
	for range 5 {
		got, again := impl.Ended(f, 123)
		if again != count || !sameFabric(got, want) || pictureOfFabric(f) != was || impl.Finished(f) || impl.Bound(f) != 19*15 {
			t.Fatalf("Ended(%+v, 123) is not the same twice", f)
		}
		impl.Ended(f, 124)
		impl.Ran(f, []int64{5, 4, 3, 2, 1})
		impl.Picked(f, 3)
	}
}
