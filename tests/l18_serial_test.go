package tests

import (
	"fmt"
	"math"
	"runtime"
	"slices"
	"strings"
	"sync"
	"testing"

	"loop.example/g00342/impl"
)

// playAnswer is all that Played answers.
type playAnswer struct {
	memory [][]int64
	is     bool
}

func (a playAnswer) same(b playAnswer) bool { return sameLines(a.memory, b.memory) && a.is == b.is }

// noPlay is what Played answers where something is not as told.
var noPlay = playAnswer{}

func opDone(agent int64, o impl.Op, said int64) impl.Event {
	return impl.Event{Agent: agent, Op: o, Told: said}
}

func portRead(line int64, words ...int64) impl.Event {
	return impl.Event{Agent: impl.Port, Line: line, Data: words}
}

func portWrote(line int64, mask int64, words ...int64) impl.Event {
	return impl.Event{Agent: impl.Port, Line: line, Mask: mask, Data: words}
}

// roomyEvents gives a copy with spare room behind each list of it; the first that stands there would be an Event.
func roomyEvents(list []impl.Event) []impl.Event {
	var wide []impl.Event
	for _, e := range list {
		e.Data = roomy(e.Data)
		wide = append(wide, e)
	}
	return append(wide, opDone(0, store(0), 0), impl.Event{Agent: -8})[:len(list)]
}

// pictureOfEvents tells all of a list, with the spare room behind each list and where each one stands.
func pictureOfEvents(list []impl.Event) string {
	var told strings.Builder
	fmt.Fprintf(&told, "%p", list)
	for _, e := range list[:cap(list)] {
		fmt.Fprintf(&told, " %+v %p %v", e, e.Data, e.Data[:cap(e.Data)])
	}
	return told.String()
}

// spoilEvents writes into all that can be reached of a list, also into the spare room behind each one.
func spoilEvents(list []impl.Event) {
	list = list[:cap(list)]
	for i := range list {
		spoil(list[i].Data)
		list[i] = impl.Event{Agent: 99, Line: 99, Data: []int64{99}}
	}
}

// eventFits and the ones below are the chapter's text over again.
func eventFits(lines int64, e impl.Event) bool {
	return eventRight(e) && (e.Agent == 5 && e.Line < lines || e.Agent != 5 && e.Op.Addr < 2*lines)
}

func playsBy(lines int64, list []impl.Event) playAnswer {
	if lines < 1 || lines > 16 {
		return noPlay
	}
	words, is := make(map[int64]int64), true
	for _, e := range list {
		if !eventFits(lines, e) {
			return noPlay
		}
		if e.Agent != 5 {
			then, said := saidBy(e.Op, words[e.Op.Addr])
			words[e.Op.Addr] = then
			is = is && said == e.Told
			continue
		}
		for i := range int64(2) {
			at := 2*e.Line + i
			if e.Mask == 0 && words[at] != e.Data[i] {
				is = false
			}
			if e.Mask>>i&1 == 1 {
				words[at] = e.Data[i]
			}
		}
	}
	var memory [][]int64
	for line := range lines {
		memory = append(memory, []int64{words[2*line], words[2*line+1]})
	}
	return playAnswer{memory, is}
}

func eventsBy(list []impl.Event, agent int64) []impl.Event {
	return slices.DeleteFunc(eventsCopy(list), func(e impl.Event) bool { return e.Agent != agent })
}

// eventOfPlace is the Event that number i of this agent's must be, where it may have one; of a read that is not told yet it is whatever was read.
func eventOfPlace(f impl.Fabric, e impl.Event, i int64) (impl.Event, bool) {
	if e.Agent != 5 {
		c := f.Cores[e.Agent]
		if i >= c.At {
			return impl.Event{}, false
		}
		return opDone(e.Agent, c.Program[i], c.Told[i]), true
	}
	if i > f.Dma.At || i == f.Dma.At && !f.Dma.Waits {
		return impl.Event{}, false
	}
	one := f.Dma.Program[i]
	want := portWrote(one.Line, one.Mask, one.Data...)
	if !one.Write {
		want.Data = e.Data
		if i < f.Dma.At {
			want.Data = f.Dma.Told[i]
		}
	}
	return want, true
}

func inOrderBy(f impl.Fabric) bool {
	if !fabricRight(f) {
		return false
	}
	count := map[int64]int64{}
	for _, e := range f.Events {
		if e.Agent != 5 && e.Agent >= f.Config.Cores {
			continue
		}
		want, may := eventOfPlace(f, e, count[e.Agent])
		if !may || !sameEvent(e, want) {
			return false
		}
		count[e.Agent]++
	}
	for id, c := range f.Cores {
		if count[int64(id)] != c.At {
			return false
		}
	}
	return count[5] >= f.Dma.At
}

func playAnswerOf(lines int64, list []impl.Event) playAnswer {
	memory, is := impl.Played(lines, list)
	return playAnswer{memory, is}
}

func checkPlayed(t *testing.T, lines int64, list []impl.Event, want playAnswer) {
	t.Helper()
	given := roomyEvents(list)
	was := pictureOfEvents(given)
	got := playAnswerOf(lines, given)
	if !got.same(want) {
		t.Errorf("Played(%d, %+v) = %+v, want %+v", lines, list, got, want)
	}
	if pictureOfEvents(given) != was {
		t.Errorf("Played(%d, %+v) wrote into its argument", lines, list)
	}
}

func checkByAgent(t *testing.T, list []impl.Event, agent int64, want ...impl.Event) {
	t.Helper()
	given := roomyEvents(list)
	was := pictureOfEvents(given)
	if got := impl.ByAgent(given, agent); !sameEvents(got, want) {
		t.Errorf("ByAgent(%+v, %d) = %+v, want %+v", list, agent, got, want)
	}
	if pictureOfEvents(given) != was {
		t.Errorf("ByAgent(%+v, %d) wrote into its argument", list, agent)
	}
}

func checkInOrder(t *testing.T, why string, f impl.Fabric, want bool) {
	t.Helper()
	given := roomyFabric(f)
	was := pictureOfFabric(given)
	if got := impl.InOrder(given); got != want {
		t.Errorf("%s: InOrder(%+v) = %v", why, f, got)
	}
	if inOrderBy(f) != want {
		t.Errorf("%s: by the text over again it is %v: %+v", why, !want, f)
	}
	if pictureOfFabric(given) != was {
		t.Errorf("%s: InOrder(%+v) wrote into its argument", why, f)
	}
}

// noughts is a new memory.
func noughts(lines int64) [][]int64 {
	var memory [][]int64
	for range lines {
		memory = append(memory, []int64{0, 0})
	}
	return memory
}

// farCounts are no counts of lines.
var farCounts = append([]int64{0}, farLines...)

func TestSerialPlayedOfNoEvent(t *testing.T) {
	for lines := int64(1); lines <= 16; lines++ {
		checkPlayed(t, lines, nil, playAnswer{noughts(lines), true})
		checkPlayed(t, lines, []impl.Event{}, playAnswer{noughts(lines), true})
		if memory, is := impl.Played(lines, nil); !is || !sameLines(memory, noughts(lines)) {
			t.Errorf("Played(%d, nil) = %v, %v", lines, memory, is)
		}
	}
	for _, lines := range farCounts {
		checkPlayed(t, lines, nil, noPlay)
		checkPlayed(t, lines, []impl.Event{opDone(0, load(0), 0)}, noPlay)
		checkPlayed(t, lines, []impl.Event{portRead(0, 0, 0)}, noPlay)
		checkPlayed(t, lines, []impl.Event{{}}, noPlay)
	}
}

// edgesOf are the first and the last word of the first and of the last line.
func edgesOf(lines int64) []int64 { return []int64{0, 1, 2*lines - 2, 2*lines - 1} }

// opsByHand are ops of each kind, done to a word that is 7 or 9998: what it is then, and what is told.
var opsByHand = []struct {
	o          impl.Op
	word       int64
	then, said int64
}{
	{impl.Op{Kind: impl.OpLoad}, 7, 7, 7},
	{impl.Op{Kind: impl.OpStore, A: 12}, 7, 12, 0},
	{impl.Op{Kind: impl.OpAdd, A: 12}, 7, 19, 7},
	{impl.Op{Kind: impl.OpAdd, A: 12}, 9998, 10, 9998},
	{impl.Op{Kind: impl.OpSwap, A: 12}, 7, 12, 7},
	{impl.Op{Kind: impl.OpCas, A: 7, B: 12}, 7, 12, 7},
	{impl.Op{Kind: impl.OpCas, A: 8, B: 12}, 7, 7, 7},
	{impl.Op{Kind: impl.OpCas, A: 7, B: 12}, 9998, 9998, 9998},
}

// othersThan are numbers that are not this one, near and far.
func othersThan(said int64) []int64 {
	list := []int64{said - 1, said + 1, said + 10000, -said - 1, said + 1<<32, math.MinInt64, math.MinInt64 + 1, math.MaxInt64}
	if said != 0 {
		list = append(list, 0, -said)
	}
	return list
}

// Each kind of op, told so and told otherwise, at the edges, of each core; the other words stay.
func TestSerialPlayedOps(t *testing.T) {
	for _, lines := range []int64{1, 2, 5, 16} {
		for _, addr := range edgesOf(lines) {
			for agent := range int64(4) {
				for _, r := range opsByHand {
					o := r.o
					o.Addr = addr
					first := opDone(3-agent, impl.Op{Kind: impl.OpStore, Addr: addr, A: r.word}, 0)
					memory := noughts(lines)
					memory[addr/2][addr%2] = r.then
					checkPlayed(t, lines, []impl.Event{first, opDone(agent, o, r.said)}, playAnswer{memory, true})
					for _, said := range othersThan(r.said) {
						checkPlayed(t, lines, []impl.Event{first, opDone(agent, o, said)}, playAnswer{memory, false})
					}
				}
			}
		}
		stopIfFailed(t)
	}
}

// The first op finds a memory of noughts.
func TestSerialPlayedFirstOps(t *testing.T) {
	for lines := int64(1); lines <= 16; lines++ {
		for addr := range 2 * lines {
			for _, r := range []struct {
				o    impl.Op
				then int64
			}{
				{impl.Op{Kind: impl.OpLoad}, 0}, {impl.Op{Kind: impl.OpStore, A: 5}, 5}, {impl.Op{Kind: impl.OpAdd, A: 5}, 5}, {impl.Op{Kind: impl.OpSwap, A: 5}, 5},
				{impl.Op{Kind: impl.OpCas, A: 0, B: 5}, 5}, {impl.Op{Kind: impl.OpCas, A: 5, B: 6}, 0},
			} {
				o := r.o
				o.Addr = addr
				memory := noughts(lines)
				memory[addr/2][addr%2] = r.then
				checkPlayed(t, lines, []impl.Event{opDone(addr%4, o, 0)}, playAnswer{memory, true})
				checkPlayed(t, lines, []impl.Event{opDone(addr%4, o, 1)}, playAnswer{memory, false})
			}
		}
	}
}

// What a store tells is 0, not what the word was.
func TestSerialPlayedStoreTellsNothing(t *testing.T) {
	list := []impl.Event{opDone(0, store(1), 0), opDone(1, store(1), 9)}
	checkPlayed(t, 1, list, playAnswer{[][]int64{{0, 9}}, false})
	list[1].Told = 0
	checkPlayed(t, 1, list, playAnswer{[][]int64{{0, 9}}, true})
}

// An address that is one of a greater memory is out of range in this one, and so is any that is none.
func TestSerialPlayedOfAddressesBeside(t *testing.T) {
	for lines := int64(1); lines <= 16; lines++ {
		for _, r := range opRows {
			for addr := range int64(34) {
				e := opDone(addr%4, impl.Op{Kind: r.kind, Addr: addr}, 0)
				want := noPlay
				if addr < 2*lines {
					want = playAnswer{noughts(lines), true}
				}
				checkPlayed(t, lines, []impl.Event{e}, want)
			}
			for _, addr := range wrongAddrs {
				checkPlayed(t, lines, []impl.Event{opDone(0, impl.Op{Kind: r.kind, Addr: addr}, 0)}, noPlay)
			}
		}
		stopIfFailed(t)
	}
}

func TestSerialPlayedReadsOfTheDma(t *testing.T) {
	for _, lines := range []int64{1, 2, 5, 16} {
		for line := range lines {
			checkPlayed(t, lines, []impl.Event{portRead(line, 0, 0)}, playAnswer{noughts(lines), true})
			for _, words := range [][]int64{{0, 1}, {1, 0}, {9999, 9999}, {1, 1}} {
				checkPlayed(t, lines, []impl.Event{portRead(line, words...)}, playAnswer{noughts(lines), false})
			}
			ahead := []impl.Event{opDone(0, impl.Op{Kind: impl.OpSwap, Addr: 2 * line, A: 41}, 0), opDone(1, impl.Op{Kind: impl.OpAdd, Addr: 2*line + 1, A: 42}, 0)}
			memory := withLine(noughts(lines), int(line), []int64{41, 42})
			checkPlayed(t, lines, append(ahead, portRead(line, 41, 42)), playAnswer{memory, true})
			for _, words := range [][]int64{{0, 0}, {42, 41}, {41, 0}, {0, 42}, {41, 41}, {41, 43}, {40, 42}} {
				checkPlayed(t, lines, append(ahead, portRead(line, words...)), playAnswer{memory, false})
			}
			// What the line beside it has is not what is read.
			if beside := (line + 1) % lines; beside != line {
				checkPlayed(t, lines, append(ahead, portRead(beside, 0, 0)), playAnswer{memory, true})
				checkPlayed(t, lines, append(ahead, portRead(beside, 41, 42)), playAnswer{memory, false})
			}
		}
		stopIfFailed(t)
	}
}

// A write is found by a later read and by a later op, of each mask; of a word that is not in the mask the old one is.
func TestSerialPlayedWritesOfTheDma(t *testing.T) {
	for _, lines := range []int64{1, 2, 5, 16} {
		for line := range lines {
			ahead := []impl.Event{portWrote(line, 3, 31, 32)}
			checkPlayed(t, lines, ahead, playAnswer{withLine(noughts(lines), int(line), []int64{31, 32}), true})
			for mask, words := range map[int64][]int64{1: {51, 32}, 2: {31, 52}, 3: {51, 52}} {
				memory := withLine(noughts(lines), int(line), words)
				list := append(slices.Clone(ahead), portWrote(line, mask, 51, 52))
				checkPlayed(t, lines, list, playAnswer{memory, true})
				checkPlayed(t, lines, append(list, portRead(line, words...)), playAnswer{memory, true})
				checkPlayed(t, lines, append(list, portRead(line, 31, 32)), playAnswer{memory, false})
				for word := range int64(2) {
					o := load(2*line + word)
					checkPlayed(t, lines, append(list, opDone(2, o, words[word])), playAnswer{memory, true})
					checkPlayed(t, lines, append(list, opDone(2, o, words[word]+1)), playAnswer{memory, false})
					swap := impl.Op{Kind: impl.OpSwap, Addr: o.Addr, A: 77}
					then := copied(memory)
					then[line][word] = 77
					checkPlayed(t, lines, append(list, opDone(3, swap, words[word]), portRead(line, then[line]...)), playAnswer{then, true})
				}
			}
			// What is read without a Mask is not written, whatever it is.
			checkPlayed(t, lines, append(ahead, portRead(line, 61, 62), portRead(line, 31, 32)), playAnswer{withLine(noughts(lines), int(line), []int64{31, 32}), false})
		}
		stopIfFailed(t)
	}
}

func TestSerialPlayedOfLinesBeside(t *testing.T) {
	for lines := int64(1); lines <= 16; lines++ {
		for line := range int64(18) {
			read, write := noPlay, noPlay
			if line < lines {
				read = playAnswer{noughts(lines), true}
				write = playAnswer{withLine(noughts(lines), int(line), []int64{5, 6}), true}
			}
			checkPlayed(t, lines, []impl.Event{portRead(line, 0, 0)}, read)
			checkPlayed(t, lines, []impl.Event{portWrote(line, 3, 5, 6)}, write)
		}
		for _, line := range noLineNumbers {
			checkPlayed(t, lines, []impl.Event{portRead(line, 0, 0)}, noPlay)
			checkPlayed(t, lines, []impl.Event{portWrote(line, 1, 0, 0)}, noPlay)
		}
		stopIfFailed(t)
	}
}

// Data that is no line is no Event, also where its words would be those of the line, or are not in the mask.
func TestSerialPlayedOfNoLines(t *testing.T) {
	for l := range noLines {
		for mask := range int64(4) {
			checkPlayed(t, 2, []impl.Event{portWrote(1, mask, l...)}, noPlay)
			checkPlayed(t, 2, []impl.Event{opDone(0, store(0), 0), portWrote(1, mask, l...), portRead(0, 9, 0)}, noPlay)
		}
	}
}

// One Event that is none makes it nothing, wherever it stands, also behind one that is told otherwise.
func TestSerialPlayedOfWrongEvents(t *testing.T) {
	right := []impl.Event{opDone(0, store(3), 0), portRead(1, 0, 9), opDone(2, load(3), 9), portWrote(4, 2, 5, 6)}
	otherwise := append([]impl.Event{opDone(1, load(0), 5)}, right...)
	checkPlayed(t, 5, right, playAnswer{[][]int64{{0, 0}, {0, 9}, {0, 0}, {0, 0}, {0, 6}}, true})
	checkPlayed(t, 5, otherwise, playAnswer{[][]int64{{0, 0}, {0, 9}, {0, 0}, {0, 0}, {0, 6}}, false})
	for i, r := range wrongFabricEvents() {
		lists := [][]impl.Event{{r.e}}
		if i%5 == 0 {
			for at := range len(right) + 1 {
				lists = append(lists, slices.Insert(slices.Clone(right), at, r.e))
			}
			lists = append(lists, append(slices.Clone(otherwise), r.e), append([]impl.Event{r.e}, otherwise...), []impl.Event{r.e, r.e})
		}
		for _, list := range lists {
			checkPlayed(t, 5, list, noPlay)
			checkPlayed(t, 16, list, noPlay)
		}
		if t.Failed() {
			t.Fatalf("%s", r.why)
		}
	}
}

// Each Kind that is none, and each number of an op that is out of range.
func TestSerialPlayedOfWrongOps(t *testing.T) {
	for _, o := range wrongOps {
		for agent := range int64(4) {
			checkPlayed(t, 16, []impl.Event{opDone(agent, o, 0)}, noPlay)
		}
	}
	for _, kind := range wrongKinds {
		checkPlayed(t, 16, []impl.Event{opDone(0, impl.Op{Kind: kind}, 0)}, noPlay)
	}
	for _, r := range opRows {
		for _, o := range oneWrongField(r, impl.Op{Kind: r.kind, Addr: 2}) {
			checkPlayed(t, 16, []impl.Event{opDone(1, o, 0)}, noPlay)
		}
	}
}

// mixedPlay has Events of all agents about one line and one beside it, which tell so in this order.
func mixedPlay() []impl.Event {
	return []impl.Event{
		opDone(0, impl.Op{Kind: impl.OpStore, Addr: 0, A: 5}, 0),
		portRead(0, 5, 0),
		opDone(1, impl.Op{Kind: impl.OpAdd, Addr: 0, A: 2}, 5),
		portWrote(0, 2, 70, 80),
		opDone(3, impl.Op{Kind: impl.OpCas, Addr: 1, A: 80, B: 81}, 80),
		opDone(2, impl.Op{Kind: impl.OpSwap, Addr: 3, A: 9}, 0),
		portRead(0, 7, 81),
		opDone(0, load(0), 7),
		portRead(1, 0, 9),
	}
}

func TestSerialPlayedInTheirOrder(t *testing.T) {
	list := mixedPlay()
	memory := [][]int64{{7, 81}, {0, 9}}
	checkPlayed(t, 2, list, playAnswer{memory, true})
	checkPlayed(t, 3, list, playAnswer{append(copied(memory), []int64{0, 0}), true})
	checkPlayed(t, 1, list, noPlay)
	// What comes of each first part of it.
	for length := range list {
		checkPlayed(t, 2, list[:length], playsBy(2, list[:length]))
		if !playAnswerOf(2, list[:length]).is {
			t.Errorf("the first %d do not tell so", length)
		}
	}
	for _, r := range []struct {
		why    string
		from   int
		to     int
		memory [][]int64
		is     bool
	}{
		{"the read ahead of the store", 1, 0, memory, false},
		{"the add ahead of the read", 2, 1, memory, false},
		{"the add ahead of the store", 2, 0, [][]int64{{5, 81}, {0, 9}}, false},
		{"the write at the end", 3, 8, [][]int64{{7, 80}, {0, 9}}, false},
		{"the op that swaps ahead of all", 5, 0, memory, true},
		{"the op that swaps at the end", 5, 8, memory, false},
		{"the load ahead of the read", 7, 6, memory, true},
		{"the load ahead of the add", 7, 2, memory, false},
	} {
		moved := slices.Clone(list)
		one := moved[r.from]
		moved = slices.Insert(slices.Delete(moved, r.from, r.from+1), r.to, one)
		checkPlayed(t, 2, moved, playAnswer{r.memory, r.is})
		if t.Failed() {
			t.Fatalf("%s", r.why)
		}
	}
}

// Each order of some Events: just those that tell so do, by the text over again.
func TestSerialPlayedOfEveryOrder(t *testing.T) {
	events := []impl.Event{
		opDone(0, impl.Op{Kind: impl.OpSwap, A: 1}, 0), opDone(1, impl.Op{Kind: impl.OpSwap, A: 2}, 1), opDone(2, impl.Op{Kind: impl.OpCas, A: 2, B: 3}, 2), portWrote(0, 1, 4, 4), portRead(0, 4, 0), opDone(3, load(1), 0),
	}
	count := map[bool]int{}
	for _, order := range everyOrder([]int64{0, 1, 2, 3, 4, 5}) {
		var list []impl.Event
		for _, i := range order {
			list = append(list, events[i])
		}
		want := playsBy(1, list)
		checkPlayed(t, 1, list, want)
		count[want.is]++
	}
	// The five about word 0 stand in one order; the load of word 1 stands anywhere among them.
	if count[true] != 6 || count[false] != 714 {
		t.Errorf("they tell so in %v orders", count)
	}
}

// One Event among many is told otherwise: the first, each one amidst, the last.
func TestSerialPlayedOneToldOtherwise(t *testing.T) {
	list := mixedPlay()
	memory := playsBy(2, list).memory
	for i, e := range list {
		if e.Agent != impl.Port {
			for _, said := range othersThan(e.Told) {
				changed := slices.Clone(list)
				changed[i].Told = said
				checkPlayed(t, 2, changed, playAnswer{memory, false})
			}
			continue
		}
		if e.Mask != 0 {
			continue
		}
		for word := range 2 {
			changed := eventsCopy(list)
			changed[i].Data[word] = 9999 - changed[i].Data[word]
			checkPlayed(t, 2, changed, playAnswer{memory, false})
		}
	}
	// Of two that are told otherwise none makes good for the other.
	changed := slices.Clone(list)
	changed[0].Told, changed[2].Told = 1, 4
	checkPlayed(t, 2, changed, playAnswer{memory, false})
}

// A list may be longer than that of a fabric.
func TestSerialPlayedOfLongLists(t *testing.T) {
	for _, length := range []int64{199, 200, 201, 256, 1000, 20001} {
		var list []impl.Event
		for i := range length {
			list = append(list, opDone(i%4, impl.Op{Kind: impl.OpAdd, Addr: 31, A: 1}, i%10000))
		}
		memory := noughts(16)
		memory[15][1] = length % 10000
		if got := playAnswerOf(16, list); !got.same(playAnswer{memory, true}) {
			t.Errorf("of %d Events it is %+v", length, got)
		}
		list[length-1].Told++
		if got := playAnswerOf(16, list); !got.same(playAnswer{memory, false}) {
			t.Errorf("of %d Events, the last told otherwise, it is %+v", length, got)
		}
		list[length-1].Agent = 4
		if got := playAnswerOf(16, list); !got.same(noPlay) {
			t.Errorf("of %d Events, the last of the house, it is %+v", length, got)
		}
	}
}

// anyEvents is a list told by dice; most of it tells what is so, as long as all of it can be played.
func (d *dice) anyEvents(lines int64, length int64) []impl.Event {
	var list []impl.Event
	words := make([]int64, 32)
	for range d.roll(length + 1) {
		line := d.roll(lines)
		e := portRead(line, words[2*line], words[2*line+1])
		switch d.roll(3) {
		case 0:
			e = portWrote(line, 1+d.roll(3), d.roll(4), d.roll(4))
			copy(words[2*line:], byMask(words[2*line:2*line+2], e.Data, e.Mask))
		case 1:
			program := d.program(lines, 1)
			if len(program) == 0 {
				continue
			}
			e = opDone(d.roll(4), program[0], 0)
			words[e.Op.Addr], e.Told = saidBy(e.Op, words[e.Op.Addr])
		}
		list = append(list, e)
	}
	return list
}

// shake changes something of a list, told by dice: mostly it is not so then, sometimes it is none at all.
func (d *dice) shake(list []impl.Event) []impl.Event {
	list = eventsCopy(list)
	if len(list) == 0 {
		return []impl.Event{opDone(d.roll(6), load(d.roll(4)), d.roll(3))}
	}
	i, j := int(d.roll(int64(len(list)))), int(d.roll(int64(len(list))))
	e := &list[i]
	switch d.roll(10) {
	case 0:
		return slices.Delete(list, i, i+1)
	case 1:
		return eventsCopy(slices.Insert(list, j, *e))
	case 2:
		list[i], list[j] = list[j], list[i]
	case 3:
		e.Agent = d.roll(6)
	case 4:
		if len(e.Data) == 2 {
			e.Data[d.roll(2)] = d.roll(5)
		} else {
			e.Told = d.roll(5)
		}
	case 5:
		e.Line = d.roll(4)
	case 6:
		e.Mask = d.roll(4)
	case 7:
		e.Op.Addr = d.roll(8)
	case 8:
		e.Op.A = d.roll(4)
	case 9:
		return append(list, *e)
	}
	return eventsCopy(list)
}

func TestSerialPlayedOfAnyEvents(t *testing.T) {
	d := &dice{41}
	so, none, otherwise := 0, 0, 0
	for range 4000 {
		lines := 1 + d.roll(16)
		if d.roll(2) == 0 {
			lines = 1 + d.roll(3)
		}
		list := d.anyEvents(lines, 14)
		for range d.roll(3) {
			list = d.shake(list)
		}
		want := playsBy(lines, list)
		checkPlayed(t, lines, list, want)
		stopIfFailed(t)
		switch {
		case want.is:
			so++
		case len(want.memory) == 0:
			none++
		default:
			otherwise++
		}
	}
	if so < 500 || none < 300 || otherwise < 300 {
		t.Errorf("%d tell so, %d tell otherwise, and %d are none", so, otherwise, none)
	}
}

func TestSerialByAgentByHand(t *testing.T) {
	list := mixedPlay()
	checkByAgent(t, list, 0, list[0], list[7])
	checkByAgent(t, list, 1, list[2])
	checkByAgent(t, list, 2, list[5])
	checkByAgent(t, list, 3, list[4])
	checkByAgent(t, list, impl.Port, list[1], list[3], list[6], list[8])
	for _, agent := range slices.Concat(farFields, []int64{-1, impl.Home, 6, 7}) {
		checkByAgent(t, list, agent)
	}
	for agent := int64(-1); agent <= 6; agent++ {
		checkByAgent(t, nil, agent)
		checkByAgent(t, []impl.Event{}, agent)
		if got := impl.ByAgent(nil, agent); len(got) != 0 {
			t.Errorf("ByAgent(nil, %d) = %+v", agent, got)
		}
	}
	checkByAgent(t, list[:1], 0, list[0])
	checkByAgent(t, list[:1], 1)
	checkByAgent(t, list[1:2], impl.Port, list[1])
	checkByAgent(t, list[1:2], 0)
}

// Many that are alike, and many in the order that they stand in, whatever they tell.
func TestSerialByAgentInTheirOrder(t *testing.T) {
	for _, length := range []int64{1, 2, 3, 50, 200, 1000} {
		var list []impl.Event
		want := map[int64][]impl.Event{}
		for i := range length {
			agent := []int64{0, 1, 2, 3, 5}[i*i%5]
			e := opDone(agent, impl.Op{Kind: impl.OpAdd, Addr: i % 32, A: 1}, 500-i)
			if agent == 5 {
				e = portWrote(i%16, i%4, i%10000, 3)
			}
			list = append(list, e)
			want[agent] = append(want[agent], e)
		}
		for agent := int64(-1); agent <= 7; agent++ {
			checkByAgent(t, list, agent, want[agent]...)
		}
	}
	alike := slices.Repeat([]impl.Event{opDone(2, load(3), 4)}, 9)
	checkByAgent(t, alike, 2, alike...)
	checkByAgent(t, alike, 1)
}

// Of what an Event tells nothing is asked but whose it is: also one that is none is its agent's.
func TestSerialByAgentOfWrongEvents(t *testing.T) {
	var list []impl.Event
	for _, r := range wrongFabricEvents() {
		list = append(list, r.e)
	}
	for _, agent := range slices.Concat(farFields, []int64{0, 1, 2, 3, 4, 5, 6, 7}) {
		checkByAgent(t, list, agent, eventsBy(list, agent)...)
	}
	d := &dice{42}
	for range 300 {
		list := d.shake(d.anyEvents(4, 12))
		for agent := int64(-1); agent <= 6; agent++ {
			checkByAgent(t, list, agent, eventsBy(list, agent)...)
		}
		stopIfFailed(t)
	}
}

// orderedFabric is a right fabric of three cores amidst its work: the first and the last core and the DMA have done something, the other core has done nothing. What was told is unlike, so that two that change places are seen.
func orderedFabric() impl.Fabric {
	f := newBy(threeCores, [][]impl.Op{
		{load(0), {Kind: impl.OpAdd, Addr: 3, A: 5}, load(0), store(9)},
		{store(1)},
		{{Kind: impl.OpSwap, Addr: 8, A: 4}, {Kind: impl.OpCas, Addr: 8, A: 4, B: 6}},
	}, []impl.Desc{readOf(4), writeOf(3, 2, 71, 72), readOf(4), readOf(0), writeOf(0, 1, 73, 74), readOf(0)})
	f.Cores[0].At, f.Cores[0].Told = 3, []int64{11, 12, 13}
	f.Cores[2].At, f.Cores[2].Told = 2, []int64{21, 22}
	f.Dma.At, f.Dma.Told = 3, [][]int64{{51, 52}, nil, {53, 54}}
	f.Events = []impl.Event{
		opDone(0, load(0), 11), portRead(4, 51, 52), opDone(2, impl.Op{Kind: impl.OpSwap, Addr: 8, A: 4}, 21), opDone(0, impl.Op{Kind: impl.OpAdd, Addr: 3, A: 5}, 12),
		portWrote(3, 2, 71, 72), opDone(2, impl.Op{Kind: impl.OpCas, Addr: 8, A: 4, B: 6}, 22), portRead(4, 53, 54), opDone(0, load(0), 13),
	}
	return fabricCopy(f)
}

// The places that the Events of orderedFabric have, by agent.
var orderedPlaces = map[int64][]int{0: {0, 3, 7}, 2: {2, 5}, impl.Port: {1, 4, 6}}

func TestSerialInOrderByHand(t *testing.T) {
	checkInOrder(t, "as it is", orderedFabric(), true)
	if got := playAnswerOf(5, orderedFabric().Events); got.is || len(got.memory) != 5 {
		t.Errorf("what it tells is so: %+v", got)
	}
	checkInOrder(t, "amidst its work", mixedFabric(), true)
	waits := orderedFabric()
	waits.Dma.Waits = true
	checkInOrder(t, "while it Waits", waits, true)
}

func TestSerialInOrderOfNewFabrics(t *testing.T) {
	for c := range everyLayout {
		var programs [][]impl.Op
		for id := range c.Cores {
			programs = append(programs, opsIn(c.Lines, int(5*id%31)))
		}
		f, code := impl.NewFabric(c, programs, descsIn(c.Lines, int(c.Lines)))
		if code != impl.PgOk || !impl.InOrder(f) {
			t.Fatalf("of %+v it is %v, by %d", c, impl.InOrder(f), code)
		}
	}
	f, _ := impl.NewFabric(threeCores, make([][]impl.Op, 3), nil)
	checkInOrder(t, "nothing to do", f, true)
	for agent := range int64(3) {
		f.Events = []impl.Event{opDone(agent, load(0), 0)}
		checkInOrder(t, "nothing to do, but something was done", f, false)
	}
	f.Events = []impl.Event{portRead(0, 0, 0)}
	checkInOrder(t, "nothing to do, but the DMA has read", f, false)
	some, _ := impl.NewFabric(threeCores, [][]impl.Op{{load(0)}, {load(0)}, {load(0)}}, []impl.Desc{readOf(0)})
	checkInOrder(t, "nothing is done yet", some, true)
	for agent := range int64(3) {
		some.Events = []impl.Event{opDone(agent, load(0), 0)}
		checkInOrder(t, "it is not done yet", some, false)
	}
	some.Events = []impl.Event{portRead(0, 0, 0)}
	checkInOrder(t, "it is not asked for yet", some, false)
}

// One thing is wrong about the Events of the first core, or of the last.
func TestSerialInOrderOfCores(t *testing.T) {
	for _, agent := range []int64{0, 2} {
		for n, at := range orderedPlaces[agent] {
			e := orderedFabric().Events[at]
			for _, o := range []impl.Op{load(1), load(e.Op.Addr + 1), {Kind: impl.OpStore, Addr: e.Op.Addr, A: e.Op.A}, {Kind: impl.OpCas, Addr: e.Op.Addr, A: e.Op.A + 1, B: e.Op.B}, {Kind: impl.OpCas, Addr: e.Op.Addr, A: e.Op.A, B: e.Op.B + 1}, load(31)} {
				f := orderedFabric()
				f.Events[at].Op = o
				checkInOrder(t, "an Event's Op is another one", f, false)
			}
			for _, said := range othersThan(e.Told) {
				f := orderedFabric()
				f.Events[at].Told = said
				checkInOrder(t, "what was told is another number than Told", f, false)
				f = orderedFabric()
				f.Cores[agent].Told[n] = said
				checkInOrder(t, "Told is another number than what was told", f, false)
			}
			f := orderedFabric()
			f.Cores[agent].Program[n] = store(6)
			checkInOrder(t, "the Program's Op is another one", f, false)
			f = orderedFabric()
			f.Events = slices.Delete(f.Events, at, at+1)
			checkInOrder(t, "one is missing", f, false)
			for place := range len(f.Events) + 2 {
				f = orderedFabric()
				f.Events = slices.Insert(f.Events, place, e)
				checkInOrder(t, "one is there twice", f, false)
			}
			f = orderedFabric()
			f.Events[at].Agent = 1
			checkInOrder(t, "one is another core's", f, false)
		}
		stopIfFailed(t)
	}
}

// One more than At tells, or one fewer, also where it would be the next one of the Program.
func TestSerialInOrderUpToAt(t *testing.T) {
	for id, next := range []impl.Op{store(9), store(1)} {
		f := orderedFabric()
		f.Events = append(f.Events, opDone(int64(id), next, 0))
		checkInOrder(t, "one that is not done yet", f, false)
		f.Cores[id].At++
		f.Cores[id].Told = append(f.Cores[id].Told, 0)
		checkInOrder(t, "it is done", f, true)
		f.Cores[id].Told[f.Cores[id].At-1] = 1
		checkInOrder(t, "it is done, and told otherwise", f, false)
		// What it waits for is not done yet.
		waits := orderedFabric()
		waits.Cores[id].Phase = impl.PhWait
		checkInOrder(t, "it waits", waits, true)
		waits.Events = append(waits.Events, opDone(int64(id), next, 0))
		checkInOrder(t, "it waits, and there is an Event of it", waits, false)
	}
	for _, id := range []int{0, 2} {
		f := orderedFabric()
		f.Cores[id].At--
		f.Cores[id].Told = f.Cores[id].Told[:f.Cores[id].At]
		checkInOrder(t, "At is one fewer", f, false)
		f = orderedFabric()
		f.Cores[id].At, f.Cores[id].Told = 0, nil
		checkInOrder(t, "At is 0", f, false)
		f.Events = slices.DeleteFunc(f.Events, func(e impl.Event) bool { return e.Agent == int64(id) })
		checkInOrder(t, "At is 0, and nothing was done", f, true)
	}
	last := orderedFabric()
	last.Events = append(last.Events, opDone(2, load(0), 0))
	checkInOrder(t, "one behind the end of the Program", last, false)
}

// Two of one agent that change places are in the wrong order; two of two agents may.
func TestSerialInOrderOfPlaces(t *testing.T) {
	for i := range orderedFabric().Events {
		for j := range i {
			f := orderedFabric()
			f.Events[i], f.Events[j] = f.Events[j], f.Events[i]
			want := inOrderBy(f)
			if f.Events[i].Agent == f.Events[j].Agent && want {
				t.Fatalf("Events %d and %d of one agent may change places", j, i)
			}
			checkInOrder(t, fmt.Sprintf("Events %d and %d change places", j, i), f, want)
		}
		if i > 0 {
			f := orderedFabric()
			f.Events[i], f.Events[i-1] = f.Events[i-1], f.Events[i]
			checkInOrder(t, "two that stand side by side", f, f.Events[i].Agent != f.Events[i-1].Agent)
		}
	}
	f := orderedFabric()
	slices.Reverse(f.Events)
	checkInOrder(t, "all turned round", f, false)
	slices.SortStableFunc(f.Events, func(a, b impl.Event) int { return int(a.Agent - b.Agent) })
	checkInOrder(t, "turned round, each agent's together", f, false)
	f = orderedFabric()
	slices.SortStableFunc(f.Events, func(a, b impl.Event) int { return int(b.Agent - a.Agent) })
	checkInOrder(t, "each agent's together", f, true)
}

// One thing is wrong about the Events of the DMA, while it does not wait, while it Waits, and while it Waits with one Event more.
func TestSerialInOrderOfTheDma(t *testing.T) {
	for _, r := range []struct {
		waits bool
		more  []impl.Event
	}{
		{false, nil}, {true, nil}, {true, []impl.Event{portRead(0, 91, 92)}},
	} {
		ordered := func() impl.Fabric {
			f := orderedFabric()
			f.Dma.Waits, f.Events = r.waits, append(f.Events, eventsCopy(r.more)...)
			return f
		}
		checkInOrder(t, "as it is", ordered(), true)
		for n, at := range orderedPlaces[impl.Port] {
			e := ordered().Events[at]
			for line := range int64(16) {
				f := ordered()
				f.Events[at].Line = line
				checkInOrder(t, "the Line is another one", f, line == e.Line)
			}
			for mask := range int64(4) {
				f := ordered()
				f.Events[at].Mask = mask
				checkInOrder(t, "the Mask is another one", f, mask == e.Mask)
			}
			for word := range 2 {
				f := ordered()
				f.Events[at].Data[word]++
				checkInOrder(t, "the Data is another one", f, false)
				f = ordered()
				if e.Mask == 0 {
					f.Dma.Told[n][word]--
				} else {
					f.Dma.Program[n].Data[word]--
				}
				checkInOrder(t, "what was told or is written is another one", f, false)
			}
			f := ordered()
			f.Events = slices.Delete(f.Events, at, at+1)
			checkInOrder(t, "one is missing", f, false)
			f = ordered()
			f.Events = slices.Insert(f.Events, at, e)
			checkInOrder(t, "one is there twice", f, false)
			f = ordered()
			f.Dma.Program[n] = readOf(2)
			f.Dma.Told[n] = []int64{53, 54}
			checkInOrder(t, "the Desc is another one", f, false)
		}
		f := ordered()
		f.Events = slices.DeleteFunc(f.Events, func(e impl.Event) bool { return e.Agent == impl.Port })
		checkInOrder(t, "all are missing", f, false)
		f = ordered()
		f.Dma.At, f.Dma.Told = 2, f.Dma.Told[:2]
		checkInOrder(t, "At is one fewer", f, r.waits && len(r.more) == 0)
		f.Dma.At, f.Dma.Told = 1, f.Dma.Told[:1]
		checkInOrder(t, "At is two fewer", f, false)
		stopIfFailed(t)
	}
}

// While it Waits there may be one more, of the Desc that it waits for, and no other one; while it does not, none.
func TestSerialInOrderWhileTheDmaWaits(t *testing.T) {
	for at, rows := range map[int64][]struct {
		why  string
		more []impl.Event
		want bool
	}{
		// It waits for a read of line 0: what was read is not told yet.
		3: {
			{"none more", nil, true},
			{"one more, of the Desc that it waits for", []impl.Event{portRead(0, 91, 92)}, true},
			{"the same, other words", []impl.Event{portRead(0, 0, 9999)}, true},
			{"one more, of another line", []impl.Event{portRead(4, 91, 92)}, false},
			{"one more, a write of that line", []impl.Event{portWrote(0, 1, 73, 74)}, false},
			{"two more, of the Desc", []impl.Event{portRead(0, 91, 92), portRead(0, 91, 92)}, false},
			{"two more, of the Desc and of the next one", []impl.Event{portRead(0, 91, 92), portWrote(0, 1, 73, 74)}, false},
			{"two more, the other way round", []impl.Event{portWrote(0, 1, 73, 74), portRead(0, 91, 92)}, false},
			{"three more", []impl.Event{portRead(0, 91, 92), portWrote(0, 1, 73, 74), portRead(0, 73, 92)}, false},
		},
		// It waits for a write of word 0 of line 0.
		4: {
			{"none more", nil, true},
			{"one more, of the Desc that it waits for", []impl.Event{portWrote(0, 1, 73, 74)}, true},
			{"one more, of other words", []impl.Event{portWrote(0, 1, 75, 74)}, false},
			{"one more, of another word that is not in the Mask", []impl.Event{portWrote(0, 1, 73, 75)}, false},
			{"one more, of another Mask", []impl.Event{portWrote(0, 3, 73, 74)}, false},
			{"one more, of another line", []impl.Event{portWrote(1, 1, 73, 74)}, false},
			{"one more, a read of that line", []impl.Event{portRead(0, 73, 74)}, false},
			{"two more, of the Desc", []impl.Event{portWrote(0, 1, 73, 74), portWrote(0, 1, 73, 74)}, false},
			{"two more, of the Desc and of the next one", []impl.Event{portWrote(0, 1, 73, 74), portRead(0, 73, 92)}, false},
		},
		// It waits for the last one.
		5: {
			{"none more", nil, true},
			{"one more, of the Desc that it waits for", []impl.Event{portRead(0, 73, 92)}, true},
			{"one more, of another line", []impl.Event{portRead(3, 73, 92)}, false},
			{"two more", []impl.Event{portRead(0, 73, 92), portRead(0, 73, 92)}, false},
		},
	} {
		for _, r := range rows {
			for _, isLast := range []bool{true, false} {
				f := orderedFabric()
				for range at - 3 {
					one := f.Dma.Program[f.Dma.At]
					words := []int64{81, 82}
					f.Dma.Told = append(f.Dma.Told, map[bool][]int64{false: words}[one.Write])
					if one.Write {
						words = one.Data
					}
					f.Events = append(f.Events, portWrote(one.Line, one.Mask, words...))
					f.Dma.At++
				}
				checkInOrder(t, "it does not wait", f, true)
				f.Events = append(f.Events, r.more...)
				if !isLast {
					// Others did something behind it.
					f.Events = append(f.Events, opDone(1, store(1), 0))
					f.Cores[1].At, f.Cores[1].Told = 1, []int64{0}
				}
				checkInOrder(t, r.why+", it does not wait", f, len(r.more) == 0)
				f.Dma.Waits = true
				checkInOrder(t, r.why+", it Waits", f, r.want)
				if t.Failed() {
					t.Fatalf("%s, at %d", r.why, at)
				}
			}
		}
	}
}

// The one more may not stand ahead of one that was done already.
func TestSerialInOrderOfOneMoreAheadOfOthers(t *testing.T) {
	for place := range len(orderedFabric().Events) + 1 {
		f := orderedFabric()
		f.Dma.Waits = true
		f.Events = slices.Insert(f.Events, place, portRead(0, 91, 92))
		checkInOrder(t, fmt.Sprintf("at place %d", place), f, place > 6)
	}
	// One missing is not made good by one more.
	f := orderedFabric()
	f.Dma.Waits = true
	f.Events = append(slices.Delete(f.Events, 6, 7), portRead(0, 91, 92))
	checkInOrder(t, "one is missing, and one more", f, false)
	// All that it waits for is the first one.
	first := newBy(threeCores, make([][]impl.Op, 3), []impl.Desc{writeOf(2, 3, 5, 6), readOf(2)})
	first.Dma.Waits = true
	checkInOrder(t, "it waits for the first", first, true)
	first.Events = []impl.Event{portWrote(2, 3, 5, 6)}
	checkInOrder(t, "the first is done", first, true)
	first.Events = []impl.Event{portRead(2, 0, 0)}
	checkInOrder(t, "the second is done ahead of the first", first, false)
}

// An Event of a core that there is not is no core's of the fabric: of the others it says nothing.
func TestSerialInOrderOfCoresThatThereAreNot(t *testing.T) {
	for place := range len(orderedFabric().Events) + 1 {
		f := orderedFabric()
		f.Events = slices.Insert(f.Events, place, opDone(3, store(2), 5))
		checkInOrder(t, "an Event of core 3 of three", f, true)
	}
	f := orderedFabric()
	f.Events[0].Agent = 3
	checkInOrder(t, "an Event of core 0 is one of core 3 of three", f, false)
}

// What was told is held against Told alone: neither the memory nor the Caches are asked.
func TestSerialInOrderAsksNoWords(t *testing.T) {
	f := orderedFabric()
	f.House.Memory = unlikeWords(5)
	has(&f, 0, wayOf(0, impl.StM, 3, 4))
	has(&f, 1, wayOf(0, impl.StM, 5, 6))
	f.House.Book[0] = owner(2)
	f.Net = idleLetters(60)
	checkInOrder(t, "all about it is otherwise", f, true)
}

func TestSerialInOrderOfWrongFabrics(t *testing.T) {
	check := func(why string, f impl.Fabric) {
		t.Helper()
		if fabricRight(f) {
			t.Fatalf("%s: it is right: %+v", why, f)
		}
		checkInOrder(t, why, f, false)
	}
	for _, r := range wrongToRun() {
		f := mixedFabric()
		r.turn(&f)
		check(r.why, f)
	}
	for _, r := range []wrongFabric{
		{"a word of the memory", func(f *impl.Fabric) { f.House.Memory[4][1] = 10000 }},
		{"an Owner and Sharers", func(f *impl.Fabric) { f.House.Book[1] = impl.Entry{Owner: 0, Sharers: 2} }},
		{"the zero letter", func(f *impl.Fabric) { f.Net = []impl.Msg{{}} }},
		{"Held while idle", func(f *impl.Fabric) { f.Cores[1].Held.Line = 0 }},
		{"other Lines", func(f *impl.Fabric) { f.Config.Lines = 6 }},
		{"no Cores", func(f *impl.Fabric) { f.Config.Cores, f.Cores = 0, nil }},
		{"a Desc behind At", func(f *impl.Fabric) { f.Dma.Program[5].Mask = 1 }},
		{"an Op behind At", func(f *impl.Fabric) { f.Cores[0].Program[3].Kind = 6 }},
		{"an Event of nobody", func(f *impl.Fabric) { f.Events = append(f.Events, opDone(6, load(0), 0)) }},
		{"an Event of the house", func(f *impl.Fabric) { f.Events = append(f.Events, opDone(4, load(0), 0)) }},
		{"an Event that has a Line beside its Op", func(f *impl.Fabric) { f.Events[0].Line = 1 }},
		{"a read that has something told beside its Data", func(f *impl.Fabric) { f.Events[1].Told = 1 }},
		{"Told is longer than At", func(f *impl.Fabric) { f.Cores[0].Told = append(f.Cores[0].Told, 0) }},
		{"Told is shorter than At", func(f *impl.Fabric) { f.Dma.Told = f.Dma.Told[:2] }},
		{"At is below 0", func(f *impl.Fabric) { f.Cores[1].At = -1 }},
		{"a far At", func(f *impl.Fabric) { f.Dma.At = math.MaxInt64 }},
		{"a far At below 0", func(f *impl.Fabric) { f.Dma.At = math.MinInt64 }},
		{"it waits behind the end", func(f *impl.Fabric) { f.Dma.Program, f.Dma.Waits = f.Dma.Program[:3], true }},
	} {
		f := orderedFabric()
		r.turn(&f)
		check(r.why, f)
	}
	for _, bad := range noLayouts {
		f := orderedFabric()
		f.Config = bad
		check("a layout that is not right", f)
	}
	for _, n := range farNumbers {
		check("far numbers", impl.Fabric{Config: impl.Config{Cores: n, Sets: n, Ways: n, Lines: n}, Dma: impl.Dma{At: n}, Net: []impl.Msg{{Road: n, From: n, To: n, Kind: n, Line: n, Flag: n}}, Events: []impl.Event{{Agent: n, Line: n, Mask: n, Told: n}}})
	}
	for i, r := range wrongFabricEvents() {
		f := orderedFabric()
		f.Events = append(f.Events, r.e)
		if i%10 == 0 {
			check(r.why, f)
		}
	}
	stray := orderedFabric()
	stray.Events = append(stray.Events, slices.Repeat([]impl.Event{opDone(3, load(0), 0)}, 192)...)
	checkInOrder(t, "200 Events", stray, true)
	stray.Events = append(stray.Events, opDone(3, load(0), 0))
	check("201 Events", stray)
	stopIfFailed(t)
}

// Lists that are nil and such as are empty are the same.
func TestSerialOfListsThatAreNil(t *testing.T) {
	bare := newBy(threeCores, make([][]impl.Op, 3), []impl.Desc{writeOf(1, 3, 5, 6)})
	bare.Dma.At, bare.Dma.Told = 1, [][]int64{nil}
	bare.Events = []impl.Event{portWrote(1, 3, 5, 6)}
	wide := fabricCopy(bare)
	wide.Dma.Told, wide.Net = [][]int64{{}}, []impl.Msg{}
	for i := range wide.Cores {
		wide.Cores[i].Program, wide.Cores[i].Told = []impl.Op{}, []int64{}
	}
	for _, f := range []impl.Fabric{bare, wide} {
		if !impl.InOrder(f) {
			t.Errorf("InOrder(%+v) is false", f)
		}
	}
	for _, words := range [][]int64{nil, {}} {
		list := []impl.Event{{Agent: 2, Op: store(1), Data: words}}
		if got := playAnswerOf(1, list); !got.same(playAnswer{[][]int64{{0, 9}}, true}) {
			t.Errorf("Played(1, %+v) = %+v", list, got)
		}
		if got := impl.ByAgent(list, 2); !sameEvents(got, list) {
			t.Errorf("ByAgent(%+v, 2) = %+v", list, got)
		}
	}
	if impl.InOrder(impl.Fabric{}) || impl.InOrder(impl.Fabric{Cores: []impl.Core{}, Net: []impl.Msg{}, Events: []impl.Event{}}) {
		t.Errorf("the zero Fabric is InOrder")
	}
}

// checkOneOrder is promise 18 of one fabric that was new once: Events are InOrder, and Played they tell the same, which is the truth of each line. It hands back whether there is one Event more than the DMA was told of.
func checkOneOrder(t *testing.T, f impl.Fabric) bool {
	t.Helper()
	if !impl.InOrder(f) || !inOrderBy(f) {
		t.Fatalf("it is not InOrder: %+v", f)
	}
	got, want := playAnswerOf(f.Config.Lines, f.Events), playsBy(f.Config.Lines, f.Events)
	if !got.is || !got.same(want) {
		t.Fatalf("Played it is %+v, want %+v: %+v", got, want, f)
	}
	for line := range f.Config.Lines {
		if truth := impl.TruthOf(f, line); !slices.Equal(got.memory[line], truth) {
			t.Fatalf("played line %d is %v, and it is %v: %+v", line, got.memory[line], truth, f)
		}
	}
	count := 0
	for agent := range int64(6) {
		own := impl.ByAgent(f.Events, agent)
		if !sameEvents(own, eventsBy(f.Events, agent)) {
			t.Fatalf("ByAgent(%+v, %d) = %+v", f.Events, agent, own)
		}
		count += len(own)
	}
	if count != len(f.Events) {
		t.Fatalf("%d of %d Events are of somebody: %+v", count, len(f.Events), f)
	}
	return int64(len(impl.ByAgent(f.Events, 5))) > f.Dma.At
}

// walksInOrder goes by the picker from a new fabric to its end, and looks behind each step. It counts the fabrics, and those where there is one Event more.
func walksInOrder(t *testing.T, f impl.Fabric, p picker, seen map[bool]int) {
	t.Helper()
	for {
		seen[checkOneOrder(t, f)]++
		enabled := impl.Enabled(f)
		if len(enabled) == 0 {
			checkAtItsEnd(t, f)
			return
		}
		var is bool
		if f, is = impl.Picked(f, p.pick(f, enabled)); !is {
			t.Fatalf("%s: nothing is picked: %+v", p.name, f)
		}
	}
}

// Promise 18: one order, whatever is picked.
func TestSerialLongWalks(t *testing.T) {
	d := &dice{43}
	seen := map[bool]int{}
	for i := range 60 {
		f := d.newFabric(t, 1+int64(i%6), 12)
		list := pickers(d)
		for _, p := range []picker{list[0], list[1], list[i%len(list)]} {
			walksInOrder(t, f, p, seen)
		}
	}
	if seen[true] < 300 || seen[false] < 3000 {
		t.Errorf("looked at %v", seen)
	}
}

// Small stores and few lines: all want the same ones, and let go of them again and again.
func TestSerialLongWalksAboutFewLines(t *testing.T) {
	d := &dice{44}
	seen := map[bool]int{}
	for cores := int64(2); cores <= 4; cores++ {
		for lines := int64(1); lines <= 3; lines++ {
			c := impl.Config{Cores: cores, Sets: 1, Ways: 1, Lines: lines}
			var programs [][]impl.Op
			for range cores {
				programs = append(programs, d.program(lines, 12))
			}
			f, _ := impl.NewFabric(c, programs, d.descs(lines, 8))
			for _, p := range pickers(d) {
				walksInOrder(t, f, p, seen)
			}
		}
	}
}

// The most that a new fabric can have; each picker lets others go first.
func TestSerialLongWalksOfTheGreatest(t *testing.T) {
	d := &dice{45}
	for i, c := range []impl.Config{{Cores: 4, Sets: 1, Ways: 1, Lines: 3}, {Cores: 4, Sets: 2, Ways: 2, Lines: 16}, {Cores: 3, Sets: 1, Ways: 2, Lines: 4}} {
		walksInOrder(t, greatFabric(c), pickers(d)[i], map[bool]int{})
	}
	end, _ := impl.Ended(greatFabric(impl.Config{Cores: 4, Sets: 1, Ways: 1, Lines: 16}), 12345)
	if checkOneOrder(t, end) || len(end.Events) != 150 {
		t.Errorf("in the end there are %d Events", len(end.Events))
	}
}

// orderOfAll looks at all that can come of a fabric; seen has what was looked at, by its Events too.
func orderOfAll(t *testing.T, f impl.Fabric, seen map[string]bool) {
	t.Helper()
	key := valueOf(f) + fmt.Sprint(f.Events)
	if seen[key] {
		return
	}
	seen[key] = true
	checkOneOrder(t, f)
	for n := range impl.Enabled(f) {
		then, _ := impl.Picked(f, int64(n))
		orderOfAll(t, then, seen)
	}
}

// Promise 18 of some small fabrics, by each pick that there can be.
func TestSerialByEachPick(t *testing.T) {
	two := impl.Config{Cores: 2, Sets: 1, Ways: 1, Lines: 2}
	three := impl.Config{Cores: 3, Sets: 1, Ways: 1, Lines: 1}
	add := func(addr int64, a int64) impl.Op { return impl.Op{Kind: impl.OpAdd, Addr: addr, A: a} }
	count := 0
	for _, r := range []struct {
		c        impl.Config
		programs [][]impl.Op
		list     []impl.Desc
	}{
		{two, [][]impl.Op{{add(0, 1), load(2)}, {add(0, 3), load(1)}}, nil},
		{two, [][]impl.Op{{add(0, 1)}, {load(0), add(1, 3)}}, []impl.Desc{writeOf(0, 1, 5, 6)}},
		{two, [][]impl.Op{{add(0, 1), load(3)}, {add(1, 4)}}, []impl.Desc{readOf(0)}},
		{three, [][]impl.Op{{load(0), add(1, 1)}, {load(1)}, {add(0, 2)}}, nil},
		{three, [][]impl.Op{{add(1, 1)}, {load(1)}, nil}, []impl.Desc{readOf(0), writeOf(0, 3, 7, 8)}},
	} {
		f, code := impl.NewFabric(r.c, r.programs, r.list)
		if code != impl.PgOk {
			t.Fatalf("it is refused by %d", code)
		}
		seen := map[string]bool{}
		orderOfAll(t, f, seen)
		count += len(seen)
	}
	if count < 1000 {
		t.Errorf("looked only at %d", count)
	}
}

// shakeFabric changes something that InOrder looks at, told by dice.
func (d *dice) shakeFabric(f impl.Fabric) impl.Fabric {
	f = fabricCopy(f)
	c := &f.Cores[d.roll(f.Config.Cores)]
	switch d.roll(6) {
	case 0:
		if len(c.Told) > 0 {
			c.Told[d.roll(c.At)] = d.roll(4)
		}
	case 1:
		if len(c.Program) > 0 {
			c.Program[d.roll(int64(len(c.Program)))] = load(d.roll(2 * f.Config.Lines))
		}
	case 2:
		f.Dma.Waits = f.Dma.At < int64(len(f.Dma.Program)) && !f.Dma.Waits
	case 3:
		if f.Dma.Waits {
			one := f.Dma.Program[f.Dma.At]
			words := one.Data
			if !one.Write {
				words = d.words()
			}
			f.Events = append(f.Events, portWrote(one.Line, one.Mask, words...))
		}
	default:
		f.Events = d.shake(f.Events)
	}
	return fabricCopy(f)
}

// Midway, with something changed: just what the text over again calls so is InOrder, and Played so.
func TestSerialOfShakenFabrics(t *testing.T) {
	d := &dice{46}
	seen := map[bool]int{}
	for range 250 {
		f := d.newFabric(t, 3, 6)
		for range d.roll(120) {
			f, _ = impl.Picked(f, d.roll(1000))
		}
		checkInOrder(t, "midway", f, true)
		for range 6 {
			shaken := d.shakeFabric(f)
			want := inOrderBy(shaken)
			checkInOrder(t, "shaken", shaken, want)
			checkPlayed(t, f.Config.Lines, shaken.Events, playsBy(f.Config.Lines, shaken.Events))
			seen[want]++
			stopIfFailed(t)
		}
	}
	for range 150 {
		f := d.anyFabric()
		checkInOrder(t, "any right one", f, inOrderBy(f))
		stopIfFailed(t)
	}
	if seen[true] < 200 || seen[false] < 200 {
		t.Errorf("InOrder were %v", seen)
	}
}

// What is answered shares nothing with the list, nor any two lists of it with each other.
func TestSerialAnswersAreNewMemory(t *testing.T) {
	d := &dice{47}
	lists := [][]impl.Event{nil, mixedPlay(), orderedFabric().Events, someEvents(50)}
	for range 20 {
		lists = append(lists, d.anyEvents(16, 20))
	}
	for _, list := range lists {
		given := roomyEvents(list)
		was := pictureOfEvents(given)
		memory, is := impl.Played(16, given)
		again, _ := impl.Played(16, given)
		want := playAnswer{copied(memory), is}
		checkRoomsApart(t, "Played", [][][]int64{memory, again}, given)
		checkLinesApart(t, "Played", again)
		spoilMemory(again)
		if pictureOfEvents(given) != was {
			t.Fatalf("Played answers with memory of its argument: %+v", list)
		}
		var shares [][]impl.Event
		for agent := int64(-1); agent <= 6; agent++ {
			shares = append(shares, impl.ByAgent(given, agent), impl.ByAgent(given, agent))
		}
		checkRoomsApart(t, "ByAgent", shares, given)
		for i := 0; i < len(shares); i += 2 {
			spoilEvents(shares[i])
		}
		if pictureOfEvents(given) != was {
			t.Fatalf("ByAgent answers with memory of its argument: %+v", list)
		}
		spoilEvents(given)
		if !want.same(playAnswer{memory, is}) {
			t.Fatalf("what Played answered changes with what was given: %+v", list)
		}
		for agent := int64(-1); agent <= 6; agent++ {
			if got := shares[2*agent+3]; !sameEvents(got, eventsBy(list, agent)) {
				t.Fatalf("what ByAgent answered changes with what was given: %+v", got)
			}
		}
	}
}

// What is given may share memory, all with all: what is answered does not.
func TestSerialOfArgumentsThatShare(t *testing.T) {
	one := []int64{3, 1}
	list := []impl.Event{{Agent: 5, Line: 1, Mask: 3, Data: one}, {Agent: 5, Line: 1, Data: one}, {Agent: 5, Line: 0, Mask: 3, Data: one}, {Agent: 0, Op: impl.Op{Kind: impl.OpAdd, Addr: 2, A: 4}, Told: 3}, {Agent: 5, Line: 0, Data: one}}
	memory, is := impl.Played(2, list)
	if !is || !sameLines(memory, [][]int64{{3, 1}, {7, 1}}) {
		t.Errorf("Played(2, %+v) = %v, %v", list, memory, is)
	}
	own := impl.ByAgent(list, 5)
	if !sameEvents(own, eventsBy(list, 5)) {
		t.Errorf("ByAgent(%+v, 5) = %+v", list, own)
	}
	checkRoomsApart(t, "Played", memory, list, one)
	checkRoomsApart(t, "ByAgent", own, list, one)
	if !slices.Equal(one, []int64{3, 1}) {
		t.Errorf("it was written into: %v", one)
	}
}

// It is the same each time, however the workers inside it run; and many may ask at once.
func TestSerialStaysWhatItWas(t *testing.T) {
	f := roomyFabric(orderedFabric())
	list := roomyEvents(mixedPlay())
	fabricWas, listWas := pictureOfFabric(f), pictureOfEvents(list)
	want := playsBy(2, list)
	wrong := append(mixedPlay(), opDone(6, load(0), 0))
	var all sync.WaitGroup
	for range 8 {
		all.Go(func() {
			for range 50 {
				if !playAnswerOf(2, list).same(want) || !playAnswerOf(2, wrong).same(noPlay) || !impl.InOrder(f) || len(impl.ByAgent(list, 5)) != 4 {
					t.Errorf("it is not the same each time")
					return
				}
			}
		})
	}
	all.Wait()
	if pictureOfFabric(f) != fabricWas || pictureOfEvents(list) != listWas {
		t.Errorf("it was written into")
	}
}

// All workers are joined: the list is the caller's again when Played answers, and none is left.
func TestSerialLeavesNobodyBehind(t *testing.T) {
	before := runtime.NumGoroutine()
	for i := range 300 {
		list := mixedPlay()
		got := playAnswerOf(2, list)
		spoilEvents(list)
		if !got.is {
			t.Fatalf("the %dth time it is %+v", i, got)
		}
		impl.Played(17, list)
		impl.Played(2, list)
	}
	for range 100000 {
		if runtime.NumGoroutine() <= before {
			return
		}
		runtime.Gosched()
	}
	t.Errorf("of %d there are %d left", before, runtime.NumGoroutine())
}
