package tests

import (
	"fmt"
	"math"
	"slices"
	"testing"

	"loop.example/g00342/impl"
)

const noOwner = int64(-1)

// sharerLists tell, written out by hand, who is in each set of 0 to 3.
var sharerLists = [16][]int64{
	{}, {0}, {1}, {0, 1}, {2}, {0, 2}, {1, 2}, {0, 1, 2},
	{3}, {0, 3}, {1, 3}, {0, 1, 3}, {2, 3}, {0, 2, 3}, {1, 2, 3}, {0, 1, 2, 3},
}

// askRow tells of one Kind, written out by hand, who may ask, how many answers are waited for at least, whether there is something to write, and whether all Holders are asked.
type askRow struct {
	kind  int64
	froms []int64
	least int64
	puts  bool
	all   bool
}

var askRows = []askRow{
	{1, []int64{0, 1, 2, 3}, 0, false, false},
	{2, []int64{0, 1, 2, 3}, 0, false, true},
	{3, []int64{5}, 1, false, false},
	{4, []int64{5}, 1, true, true},
}

// Cut to fewer bits, or taken without their sign, some of these would be right numbers of every field but Sharers.
var farOfEntry = []int64{math.MinInt64, math.MinInt64 + 1, math.MinInt64 + 3, math.MinInt64 + 5, math.MinInt64 / 2, -1 << 32, -1<<32 + 1, -256, -255, -64, -6, -5, -4, -3, -2, 6, 7, 8, 63, 64, 65, 255, 256, 257, 258, 260, 261, 1 << 32, 1<<32 + 1, 1<<32 + 2, 1<<32 + 5, math.MaxInt64 / 2, math.MaxInt64 - 1, math.MaxInt64}

var wrongOwners = append([]int64{4, 5}, farOfEntry...)

// Some of these have only right ones in their last four bits, or none at all.
var wrongSharers = []int64{math.MinInt64, math.MinInt64 + 1, math.MinInt64 + 15, math.MinInt64 / 2, -1 << 32, -256, -241, -16, -15, -5, -2, -1, 16, 17, 18, 20, 24, 31, 32, 64, 128, 240, 255, 256, 257, 271, 1 << 32, 1<<32 + 1, 1<<32 + 15, math.MaxInt64 - 1, math.MaxInt64}

var wrongCoreNumbers = append([]int64{-1, 4, 5}, farOfEntry...)

func entryCopy(e impl.Entry) impl.Entry {
	e.Data = slices.Clone(e.Data)
	return e
}

func sameEntry(a impl.Entry, b impl.Entry) bool {
	return a.Owner == b.Owner && a.Sharers == b.Sharers && a.Busy == b.Busy && a.Kind == b.Kind && a.From == b.From && a.Left == b.Left && a.Mask == b.Mask && slices.Equal(a.Data, b.Data)
}

func roomyEntry(e impl.Entry) impl.Entry {
	e.Data = roomy(e.Data)
	return e
}

func checkEntryOk(t *testing.T, e impl.Entry, want bool) {
	t.Helper()
	given := roomyEntry(e)
	if got := impl.EntryOk(given); got != want {
		t.Errorf("EntryOk(%+v) = %v", e, got)
	}
	if !untouched(given.Data, e.Data) {
		t.Errorf("EntryOk(%+v) wrote into its argument", e)
	}
}

func checkHolders(t *testing.T, e impl.Entry, want []int64) {
	t.Helper()
	given := roomyEntry(e)
	if got := impl.Holders(given); !slices.Equal(got, want) {
		t.Errorf("Holders(%+v) = %v, want %v", e, got, want)
	}
	if !untouched(given.Data, e.Data) {
		t.Errorf("Holders(%+v) wrote into its argument", e)
	}
}

func checkAsked(t *testing.T, e impl.Entry, kind int64, from int64, want []int64) {
	t.Helper()
	given := roomyEntry(e)
	if got := impl.Asked(given, kind, from); !slices.Equal(got, want) {
		t.Errorf("Asked(%+v, %d, %d) = %v, want %v", e, kind, from, got, want)
	}
	if !untouched(given.Data, e.Data) {
		t.Errorf("Asked(%+v, %d, %d) wrote into its argument", e, kind, from)
	}
}

func checkForgot(t *testing.T, e impl.Entry, core int64, want impl.Entry) {
	t.Helper()
	given := roomyEntry(e)
	if got := impl.Forgot(given, core); !sameEntry(got, want) {
		t.Errorf("Forgot(%+v, %d) = %+v, want %+v", e, core, got, want)
	}
	if !untouched(given.Data, e.Data) {
		t.Errorf("Forgot(%+v, %d) wrote into its argument", e, core)
	}
}

// checkNoEntry asks all that is asked of an entry, of right and of wrong numbers beside it.
func checkNoEntry(t *testing.T, e impl.Entry) {
	t.Helper()
	checkEntryOk(t, e, false)
	checkHolders(t, e, nil)
	for kind := int64(0); kind <= 5; kind++ {
		for from := int64(-1); from <= 6; from++ {
			checkAsked(t, e, kind, from, nil)
		}
	}
	checkAsked(t, e, e.Kind, e.From, nil)
	for core := int64(-2); core <= 6; core++ {
		checkForgot(t, e, core, impl.Entry{})
	}
	checkForgot(t, e, e.Owner, impl.Entry{})
	checkForgot(t, e, math.MinInt64, impl.Entry{})
	checkForgot(t, e, math.MaxInt64, impl.Entry{})
}

// everyHolding gives all that an Owner and Sharers can be, of entries that are not Busy, and who the Holders are.
func everyHolding(yield func(e impl.Entry, holders []int64) bool) {
	for owner := range int64(4) {
		if !yield(impl.Entry{Owner: owner}, []int64{owner}) {
			return
		}
	}
	for sharers, list := range sharerLists {
		if !yield(impl.Entry{Owner: noOwner, Sharers: int64(sharers)}, list) {
			return
		}
	}
}

// everyRequest gives what can be asked for, of an entry that nobody has; not Busy first.
func everyRequest(yield func(impl.Entry) bool) {
	if !yield(impl.Entry{Owner: noOwner}) {
		return
	}
	for _, r := range askRows {
		for _, from := range r.froms {
			for left := r.least; left <= 4; left++ {
				e := impl.Entry{Owner: noOwner, Busy: true, Kind: r.kind, From: from, Left: left}
				for put := range putsOf(r, e) {
					if !yield(put) {
						return
					}
				}
			}
		}
	}
}

// putsOf gives the entry with each mask and some lines, where there is something to write.
func putsOf(r askRow, e impl.Entry) func(func(impl.Entry) bool) {
	return func(yield func(impl.Entry) bool) {
		if !r.puts {
			yield(e)
			return
		}
		for mask := range int64(4) {
			for _, l := range [][]int64{{0, 0}, {5, 6}, {9999, 9999}} {
				e.Mask, e.Data = mask, slices.Clone(l)
				if !yield(e) {
					return
				}
			}
		}
	}
}

// everyEntry gives right entries: whoever has it, with whatever is asked for; and who the Holders are.
func everyEntry(yield func(e impl.Entry, holders []int64) bool) {
	for held, holders := range everyHolding {
		for e := range everyRequest {
			e.Owner, e.Sharers = held.Owner, held.Sharers
			if !yield(e, holders) {
				return
			}
		}
	}
}

// fewEntries gives of each kind of holding and of request one or two.
func fewEntries(yield func(impl.Entry) bool) {
	for _, held := range []impl.Entry{{Owner: noOwner}, {Owner: 0}, {Owner: 3}, {Owner: noOwner, Sharers: 4}, {Owner: noOwner, Sharers: 15}} {
		for _, e := range []impl.Entry{
			{},
			{Busy: true, Kind: 1, From: 0, Left: 0},
			{Busy: true, Kind: 1, From: 3, Left: 1},
			{Busy: true, Kind: 2, From: 0, Left: 4},
			{Busy: true, Kind: 2, From: 2, Left: 0},
			{Busy: true, Kind: 3, From: 5, Left: 1},
			{Busy: true, Kind: 4, From: 5, Left: 4, Mask: 3, Data: []int64{7, 8}},
			{Busy: true, Kind: 4, From: 5, Left: 1, Data: []int64{0, 9999}},
		} {
			e.Owner, e.Sharers = held.Owner, held.Sharers
			if !yield(e) {
				return
			}
		}
	}
}

// entryRight is the chapter's text over again, one sentence after the other.
func entryRight(e impl.Entry) bool {
	ownerIs := e.Owner == -1 || e.Owner == 0 || e.Owner == 1 || e.Owner == 2 || e.Owner == 3
	sharersAre := e.Sharers >= 0 && e.Sharers < 16
	if !ownerIs || !sharersAre || e.Owner != -1 && e.Sharers != 0 {
		return false
	}
	nothingToWrite := e.Mask == 0 && len(e.Data) == 0
	if !e.Busy {
		return e.Kind == 0 && e.From == 0 && e.Left == 0 && nothingToWrite
	}
	if e.Left < 0 || e.Left > 4 {
		return false
	}
	fromCore := e.From >= 0 && e.From < 4
	switch e.Kind {
	case 1, 2:
		return fromCore && nothingToWrite
	case 3:
		return e.From == 5 && e.Left != 0 && nothingToWrite
	case 4:
		line := len(e.Data) == 2 && e.Data[0] >= 0 && e.Data[0] < 10000 && e.Data[1] >= 0 && e.Data[1] < 10000
		return e.From == 5 && e.Left != 0 && e.Mask >= 0 && e.Mask < 4 && line
	}
	return false
}

// mustAnswer is the chapter's text over again, of a right entry.
func mustAnswer(e impl.Entry, r askRow, from int64) []int64 {
	list := []int64{}
	for core := range int64(4) {
		owns := e.Owner == core
		shares := slices.Contains(sharerLists[e.Sharers], core)
		if core != from && (owns || r.all && shares) {
			list = append(list, core)
		}
	}
	return list
}

func TestEntryKinds(t *testing.T) {
	for want, kind := range []int64{1: impl.KdRead, 2: impl.KdWrite, 3: impl.KdSnap, 4: impl.KdPut} {
		if kind != int64(want) {
			t.Errorf("kind %d is %d", want, kind)
		}
	}
}

func TestEntryNew(t *testing.T) {
	e := impl.NewEntry()
	if !sameEntry(e, impl.Entry{Owner: noOwner}) {
		t.Errorf("NewEntry() = %+v", e)
	}
	checkEntryOk(t, e, true)
	checkHolders(t, e, nil)
	for _, r := range askRows {
		for _, from := range r.froms {
			checkAsked(t, e, r.kind, from, nil)
		}
	}
	for core := int64(-1); core <= 5; core++ {
		checkForgot(t, e, core, e)
	}
	e.Owner, e.Sharers, e.Data = 2, 9, append(e.Data, 1, 2)
	if again := impl.NewEntry(); !sameEntry(again, impl.Entry{Owner: noOwner}) {
		t.Errorf("NewEntry() = %+v after another one was changed", again)
	}
}

// The zero Entry is one of which core 0 is the Owner.
func TestEntryZero(t *testing.T) {
	checkEntryOk(t, impl.Entry{}, true)
	checkHolders(t, impl.Entry{}, []int64{0})
	checkAsked(t, impl.Entry{}, impl.KdSnap, 5, []int64{0})
	checkForgot(t, impl.Entry{}, 0, impl.NewEntry())
}

func TestEntryOkByHand(t *testing.T) {
	rows := []struct {
		e    impl.Entry
		want bool
	}{
		{impl.Entry{Owner: -2}, false},
		{impl.Entry{Owner: -1}, true},
		{impl.Entry{Owner: 0}, true},
		{impl.Entry{Owner: 3}, true},
		{impl.Entry{Owner: 4}, false},
		{impl.Entry{Owner: -1, Sharers: -1}, false},
		{impl.Entry{Owner: -1, Sharers: 1}, true},
		{impl.Entry{Owner: -1, Sharers: 8}, true},
		{impl.Entry{Owner: -1, Sharers: 15}, true},
		{impl.Entry{Owner: -1, Sharers: 16}, false},
		{impl.Entry{Owner: 0, Sharers: 1}, false},
		{impl.Entry{Owner: 0, Sharers: 2}, false},
		{impl.Entry{Owner: 3, Sharers: 8}, false},
		{impl.Entry{Owner: 3, Sharers: 7}, false},
		{impl.Entry{Owner: 3, Sharers: 16}, false},
		{impl.Entry{Owner: -1, Kind: 1}, false},
		{impl.Entry{Owner: -1, From: 1}, false},
		{impl.Entry{Owner: -1, From: 5}, false},
		{impl.Entry{Owner: -1, Left: 1}, false},
		{impl.Entry{Owner: -1, Mask: 1}, false},
		{impl.Entry{Owner: -1, Data: []int64{1, 2}}, false},
		{impl.Entry{Owner: -1, Data: []int64{0}}, false},
		{impl.Entry{Owner: -1, Kind: 4, From: 5, Left: 1, Data: []int64{1, 2}}, false},
		{impl.Entry{Owner: -1, Kind: 4, Data: []int64{1, 2}}, false},
		{impl.Entry{Owner: -1, Busy: true}, false},
		{impl.Entry{Owner: -1, Busy: true, Kind: 0, From: 1, Left: 1}, false},
		{impl.Entry{Owner: -1, Busy: true, Kind: 1, From: 0}, true},
		{impl.Entry{Owner: -1, Busy: true, Kind: 1, From: 3, Left: 4}, true},
		{impl.Entry{Owner: -1, Busy: true, Kind: 1, From: 4, Left: 1}, false},
		{impl.Entry{Owner: -1, Busy: true, Kind: 1, From: 5, Left: 1}, false},
		{impl.Entry{Owner: -1, Busy: true, Kind: 1, From: -1, Left: 1}, false},
		{impl.Entry{Owner: -1, Busy: true, Kind: 1, From: 0, Left: 5}, false},
		{impl.Entry{Owner: -1, Busy: true, Kind: 1, From: 0, Left: -1}, false},
		{impl.Entry{Owner: -1, Busy: true, Kind: 1, From: 0, Left: 1, Mask: 1}, false},
		{impl.Entry{Owner: -1, Busy: true, Kind: 1, From: 0, Left: 1, Data: []int64{1, 2}}, false},
		{impl.Entry{Owner: 2, Busy: true, Kind: 2, From: 2}, true},
		{impl.Entry{Owner: 2, Busy: true, Kind: 2, From: 0, Left: 4}, true},
		{impl.Entry{Owner: 2, Busy: true, Kind: 2, From: 5, Left: 1}, false},
		{impl.Entry{Owner: 2, Busy: true, Kind: 2, From: 0, Left: 1, Mask: 3}, false},
		{impl.Entry{Owner: 2, Busy: true, Kind: 2, From: 0, Left: 1, Data: []int64{0, 0}}, false},
		{impl.Entry{Owner: 2, Busy: true, Kind: 3, From: 5, Left: 1}, true},
		{impl.Entry{Owner: 2, Busy: true, Kind: 3, From: 5, Left: 4}, true},
		{impl.Entry{Owner: 2, Busy: true, Kind: 3, From: 5, Left: 0}, false},
		{impl.Entry{Owner: 2, Busy: true, Kind: 3, From: 5, Left: 5}, false},
		{impl.Entry{Owner: 2, Busy: true, Kind: 3, From: 2, Left: 1}, false},
		{impl.Entry{Owner: 2, Busy: true, Kind: 3, From: 4, Left: 1}, false},
		{impl.Entry{Owner: 2, Busy: true, Kind: 3, From: 6, Left: 1}, false},
		{impl.Entry{Owner: 2, Busy: true, Kind: 3, From: 5, Left: 1, Mask: 1}, false},
		{impl.Entry{Owner: 2, Busy: true, Kind: 3, From: 5, Left: 1, Data: []int64{1, 2}}, false},
		{impl.Entry{Owner: -1, Sharers: 5, Busy: true, Kind: 4, From: 5, Left: 2, Mask: 3, Data: []int64{1, 2}}, true},
		{impl.Entry{Owner: -1, Sharers: 5, Busy: true, Kind: 4, From: 5, Left: 2, Mask: 0, Data: []int64{1, 2}}, true},
		{impl.Entry{Owner: -1, Sharers: 5, Busy: true, Kind: 4, From: 5, Left: 2, Mask: 4, Data: []int64{1, 2}}, false},
		{impl.Entry{Owner: -1, Sharers: 5, Busy: true, Kind: 4, From: 5, Left: 2, Mask: -1, Data: []int64{1, 2}}, false},
		{impl.Entry{Owner: -1, Sharers: 5, Busy: true, Kind: 4, From: 5, Left: 0, Mask: 3, Data: []int64{1, 2}}, false},
		{impl.Entry{Owner: -1, Sharers: 5, Busy: true, Kind: 4, From: 2, Left: 2, Mask: 3, Data: []int64{1, 2}}, false},
		{impl.Entry{Owner: -1, Sharers: 5, Busy: true, Kind: 4, From: 5, Left: 2, Mask: 3}, false},
		{impl.Entry{Owner: -1, Sharers: 5, Busy: true, Kind: 4, From: 5, Left: 2, Mask: 0}, false},
		{impl.Entry{Owner: -1, Sharers: 5, Busy: true, Kind: 4, From: 5, Left: 2, Mask: 3, Data: []int64{1}}, false},
		{impl.Entry{Owner: -1, Sharers: 5, Busy: true, Kind: 4, From: 5, Left: 2, Mask: 3, Data: []int64{1, 2, 3}}, false},
		{impl.Entry{Owner: -1, Sharers: 5, Busy: true, Kind: 4, From: 5, Left: 2, Mask: 3, Data: []int64{1, 10000}}, false},
		{impl.Entry{Owner: -1, Sharers: 5, Busy: true, Kind: 5, From: 5, Left: 2}, false},
		{impl.Entry{Owner: -1, Sharers: 5, Busy: true, Kind: 5, From: 5, Left: 2, Mask: 3, Data: []int64{1, 2}}, false},
	}
	for _, r := range rows {
		checkEntryOk(t, r.e, r.want)
		if entryRight(r.e) != r.want {
			t.Errorf("the text over again says %v of %+v", !r.want, r.e)
		}
		if !r.want {
			checkNoEntry(t, r.e)
		}
	}
}

// An empty Data is none, whether it is nil, a list of nothing, or has room behind it.
func TestEntryOfEmptyData(t *testing.T) {
	for e := range everyRequest {
		if len(e.Data) != 0 {
			continue
		}
		for _, data := range [][]int64{nil, {}, make([]int64, 0, 2), []int64{5, 6}[:0]} {
			e.Data = data
			if !impl.EntryOk(e) || !sameEntry(impl.Forgot(e, 0), e) {
				t.Errorf("%+v is not taken as it is", e)
			}
		}
	}
}

// Each field from two below its range to two past it, all with all.
func TestEntryOkOfAllNearNumbers(t *testing.T) {
	held := []impl.Entry{{Owner: -2}, {Owner: -1}, {Owner: 0}, {Owner: 3}, {Owner: 4}, {Owner: 1, Sharers: 2}, {Owner: 2, Sharers: 1}, {Owner: -1, Sharers: -1}, {Owner: -1, Sharers: 6}, {Owner: -1, Sharers: 15}, {Owner: -1, Sharers: 16}}
	right := 0
	for _, h := range held {
		for e := range nearRequests {
			e.Owner, e.Sharers = h.Owner, h.Sharers
			want := entryRight(e)
			if got := impl.EntryOk(e); got != want {
				t.Fatalf("EntryOk(%+v) = %v", e, got)
			}
			if want {
				right++
			}
		}
	}
	// Of five holdings: not Busy and no Data twice; 4 Froms and 5 Lefts of the first two kinds, 4 Lefts of the third, all with no Data twice; 4 Lefts, 4 Masks and 2 lines of the fourth.
	if want := 5 * (2 + 2*20*2 + 4*2 + 4*4*2); right != want {
		t.Errorf("%d entries are right, want %d", right, want)
	}
}

func nearRequests(yield func(impl.Entry) bool) {
	for _, data := range [][]int64{nil, {}, {0, 0}, {9999, 9999}, {0}, {0, 0, 0}, {-1, 0}, {0, 10000}} {
		for numbers := range everyList(4, -2, 7) {
			kind, from, left, mask := numbers[0], numbers[1], numbers[2], numbers[3]
			for _, busy := range []bool{false, true} {
				if kind > 6 || left > 6 || mask > 5 {
					continue
				}
				if !yield(impl.Entry{Busy: busy, Kind: kind, From: from, Left: left, Mask: mask, Data: data}) {
					return
				}
			}
		}
	}
}

// Every Owner beside every Sharers, with ends and one past them.
func TestEntryOkOfAllHoldings(t *testing.T) {
	for e := range fewEntries {
		for owner := int64(-3); owner <= 6; owner++ {
			for sharers := int64(-20); sharers <= 300; sharers++ {
				e.Owner, e.Sharers = owner, sharers
				if got := impl.EntryOk(e); got != entryRight(e) {
					t.Fatalf("EntryOk(%+v) = %v", e, got)
				}
			}
		}
	}
}

func TestEntryOfEveryEntry(t *testing.T) {
	count := 0
	for e, holders := range everyEntry {
		count++
		checkEntryOk(t, e, true)
		checkHolders(t, e, holders)
		stopIfFailed(t)
	}
	// 20 holdings; not Busy; 20 reads, 20 writes, 4 snaps, and 4 puts with 4 masks and 3 lines.
	if want := 20 * (1 + 20 + 20 + 4 + 48); count != want {
		t.Errorf("%d entries were asked, want %d", count, want)
	}
}

// oneWrongNumber gives the entry with one number of it wrong, whatever the others are.
func oneWrongNumber(e impl.Entry) []impl.Entry {
	var list []impl.Entry
	set := func(change func(*impl.Entry, int64), numbers []int64) {
		for _, n := range numbers {
			bad := entryCopy(e)
			change(&bad, n)
			list = append(list, bad)
		}
	}
	set(func(e *impl.Entry, n int64) { e.Owner = n }, wrongOwners)
	set(func(e *impl.Entry, n int64) { e.Sharers = n }, wrongSharers)
	set(func(e *impl.Entry, n int64) { e.Kind = n }, append([]int64{-1, 5}, farOfEntry...))
	set(func(e *impl.Entry, n int64) { e.From = n }, append([]int64{-1, 4}, farOfEntry...))
	set(func(e *impl.Entry, n int64) { e.Left = n }, append([]int64{-1, 5}, farOfEntry...))
	set(func(e *impl.Entry, n int64) { e.Mask = n }, wrongMasks)
	return list
}

func TestEntryOfOneWrongNumber(t *testing.T) {
	for e := range fewEntries {
		checkEntryOk(t, e, true)
		for _, bad := range oneWrongNumber(e) {
			checkNoEntry(t, bad)
		}
		stopIfFailed(t)
	}
}

// One that is not Busy has nothing of what one that is Busy has, and the other way round.
func TestEntryBusyOrNot(t *testing.T) {
	for e := range everyRequest {
		e.Busy = !e.Busy
		checkNoEntry(t, e)
		stopIfFailed(t)
	}
}

func TestEntryOfTwoWrongNumbers(t *testing.T) {
	bads := []func(*impl.Entry){
		func(e *impl.Entry) { e.Owner = -2 },
		func(e *impl.Entry) { e.Owner = 4 },
		func(e *impl.Entry) { e.Sharers = -1 },
		func(e *impl.Entry) { e.Sharers = 16 },
		func(e *impl.Entry) { e.Owner, e.Sharers = 1, 4 },
		func(e *impl.Entry) { e.Kind = math.MinInt64 },
		func(e *impl.Entry) { e.From = math.MaxInt64 },
		func(e *impl.Entry) { e.Left = 5 },
		func(e *impl.Entry) { e.Mask = 4 },
		func(e *impl.Entry) { e.Data = []int64{1} },
	}
	for e := range fewEntries {
		for i, one := range bads {
			for _, other := range bads[:i] {
				bad := entryCopy(e)
				other(&bad)
				one(&bad)
				checkNoEntry(t, bad)
			}
		}
		stopIfFailed(t)
	}
}

// Data that is no line: nothing where KdPut wants one, something where nothing is to be.
func TestEntryOfWrongData(t *testing.T) {
	for e := range fewEntries {
		puts := e.Kind == impl.KdPut
		for bad := range noLines {
			e.Data = bad
			if !puts && len(bad) == 0 {
				checkEntryOk(t, e, true)
				continue
			}
			checkNoEntry(t, e)
		}
		for l := range someLines {
			e.Data = l
			checkEntryOk(t, e, puts)
		}
		e.Data = make([]int64, 100000)
		if impl.EntryOk(e) {
			t.Errorf("100000 words are a line")
		}
		stopIfFailed(t)
	}
}

func TestEntryAskedByHand(t *testing.T) {
	rows := []struct {
		owner, sharers, kind, from int64
		want                       []int64
	}{
		{-1, 0, 1, 0, nil},
		{-1, 0, 2, 3, nil},
		{-1, 0, 3, 5, nil},
		{-1, 0, 4, 5, nil},
		{2, 0, 1, 0, []int64{2}},
		{2, 0, 1, 2, nil},
		{2, 0, 1, 3, []int64{2}},
		{2, 0, 2, 0, []int64{2}},
		{2, 0, 2, 2, nil},
		{2, 0, 3, 5, []int64{2}},
		{2, 0, 4, 5, []int64{2}},
		{0, 0, 1, 3, []int64{0}},
		{0, 0, 1, 0, nil},
		{3, 0, 2, 0, []int64{3}},
		{3, 0, 2, 3, nil},
		{-1, 5, 1, 0, nil},
		{-1, 5, 1, 1, nil},
		{-1, 5, 2, 0, []int64{2}},
		{-1, 5, 2, 2, []int64{0}},
		{-1, 5, 2, 1, []int64{0, 2}},
		{-1, 5, 2, 3, []int64{0, 2}},
		{-1, 5, 3, 5, nil},
		{-1, 5, 4, 5, []int64{0, 2}},
		{-1, 8, 2, 3, nil},
		{-1, 8, 2, 0, []int64{3}},
		{-1, 15, 1, 1, nil},
		{-1, 15, 2, 0, []int64{1, 2, 3}},
		{-1, 15, 2, 1, []int64{0, 2, 3}},
		{-1, 15, 2, 3, []int64{0, 1, 2}},
		{-1, 15, 3, 5, nil},
		{-1, 15, 4, 5, []int64{0, 1, 2, 3}},
		{2, 0, 1, 5, nil},
		{2, 0, 2, 5, nil},
		{2, 0, 3, 0, nil},
		{2, 0, 3, 2, nil},
		{2, 0, 4, 0, nil},
		{2, 0, 4, 2, nil},
		{-1, 15, 2, 5, nil},
		{-1, 15, 4, 0, nil},
		{2, 0, 1, 4, nil},
		{2, 0, 3, 4, nil},
		{2, 0, 3, 6, nil},
		{2, 0, 1, -1, nil},
		{2, 0, 0, 0, nil},
		{2, 0, 5, 5, nil},
		{-1, 15, 5, 0, nil},
	}
	for _, r := range rows {
		checkAsked(t, impl.Entry{Owner: r.owner, Sharers: r.sharers}, r.kind, r.from, r.want)
	}
}

// Who is Asked hangs on who has it alone: what is asked for already makes no difference.
func TestEntryAskedOfEveryEntry(t *testing.T) {
	for e := range everyEntry {
		for _, r := range askRows {
			for from := int64(-1); from <= 6; from++ {
				var want []int64
				if slices.Contains(r.froms, from) {
					want = mustAnswer(e, r, from)
				}
				checkAsked(t, e, r.kind, from, want)
			}
		}
		stopIfFailed(t)
	}
}

func TestEntryAskedOfWrongKindsAndFroms(t *testing.T) {
	for e := range fewEntries {
		for _, kind := range append([]int64{-1, 0, 5}, farOfEntry...) {
			for from := int64(-2); from <= 6; from++ {
				checkAsked(t, e, kind, from, nil)
			}
			checkAsked(t, e, kind, kind, nil)
		}
		for _, r := range askRows {
			for _, from := range append([]int64{-1, 4}, farOfEntry...) {
				checkAsked(t, e, r.kind, from, nil)
			}
		}
		stopIfFailed(t)
	}
}

func TestEntryForgotByHand(t *testing.T) {
	put := impl.Entry{Owner: -1, Sharers: 13, Busy: true, Kind: 4, From: 5, Left: 3, Mask: 2, Data: []int64{7, 8}}
	rows := []struct {
		e                    impl.Entry
		core, owner, sharers int64
	}{
		{impl.Entry{Owner: -1}, 0, -1, 0},
		{impl.Entry{Owner: -1}, -1, -1, 0},
		{impl.Entry{Owner: 0}, 0, -1, 0},
		{impl.Entry{Owner: 0}, 1, 0, 0},
		{impl.Entry{Owner: 3}, 3, -1, 0},
		{impl.Entry{Owner: 3}, 2, 3, 0},
		{impl.Entry{Owner: 3}, -1, 3, 0},
		{impl.Entry{Owner: 3}, 4, 3, 0},
		{impl.Entry{Owner: 2, Busy: true, Kind: 1, From: 0, Left: 1}, 2, -1, 0},
		{impl.Entry{Owner: 2, Busy: true, Kind: 1, From: 0, Left: 1}, 0, 2, 0},
		{impl.Entry{Owner: 2, Busy: true, Kind: 3, From: 5, Left: 1}, 5, 2, 0},
		{impl.Entry{Owner: -1, Sharers: 1}, 0, -1, 0},
		{impl.Entry{Owner: -1, Sharers: 8}, 3, -1, 0},
		{impl.Entry{Owner: -1, Sharers: 5}, 2, -1, 1},
		{impl.Entry{Owner: -1, Sharers: 5}, 0, -1, 4},
		{impl.Entry{Owner: -1, Sharers: 5}, 1, -1, 5},
		{impl.Entry{Owner: -1, Sharers: 15}, 1, -1, 13},
		{impl.Entry{Owner: -1, Sharers: 15}, 4, -1, 15},
		{impl.Entry{Owner: -1, Sharers: 15}, -1, -1, 15},
		{put, 0, -1, 12},
		{put, 1, -1, 13},
		{put, 2, -1, 9},
		{put, 3, -1, 5},
		{put, 5, -1, 13},
	}
	for _, r := range rows {
		want := entryCopy(r.e)
		want.Owner, want.Sharers = r.owner, r.sharers
		checkForgot(t, r.e, r.core, want)
	}
}

// Just this core is gone, once and for all, and all else stays: what is asked for too, whoever asks.
func TestEntryForgotOfEveryEntry(t *testing.T) {
	for e, holders := range everyEntry {
		for core := range int64(4) {
			want := entryCopy(e)
			if want.Owner == core {
				want.Owner = noOwner
			}
			rest := slices.DeleteFunc(slices.Clone(holders), func(one int64) bool { return one == core })
			if e.Owner == noOwner {
				want.Sharers = int64(slices.IndexFunc(sharerLists[:], func(list []int64) bool { return slices.Equal(list, rest) }))
			}
			checkForgot(t, e, core, want)
			checkEntryOk(t, want, true)
			checkHolders(t, impl.Forgot(e, core), rest)
			checkForgot(t, want, core, want)
		}
		stopIfFailed(t)
	}
}

func TestEntryForgotOfNoCore(t *testing.T) {
	for e := range everyEntry {
		for _, core := range wrongCoreNumbers {
			checkForgot(t, e, core, e)
		}
		stopIfFailed(t)
	}
}

// forgetAll lets the program forget each of them, in this order.
func forgetAll(e impl.Entry, cores []int64) impl.Entry {
	for _, core := range cores {
		e = impl.Forgot(e, core)
	}
	return e
}

func reversed(list []int64) []int64 {
	back := slices.Clone(list)
	slices.Reverse(back)
	return back
}

// Promise 10: who is Asked is a Holder, and not the one that asks.
func TestEntryWhoIsAskedIsAHolder(t *testing.T) {
	asked := 0
	for e := range everyEntry {
		holders := impl.Holders(e)
		for _, r := range askRows {
			for _, from := range r.froms {
				list := impl.Asked(e, r.kind, from)
				asked += len(list)
				for i, core := range list {
					if !slices.Contains(holders, core) || core == from || i > 0 && core <= list[i-1] {
						t.Errorf("of %+v %v are Asked for %d by %d, and %v are Holders", e, list, r.kind, from, holders)
					}
				}
			}
		}
		stopIfFailed(t)
	}
	// Of 93 requests: an Owner (4 holdings) is asked by 3 for a read and for a write, and by the DMA for both; Sharers (32 in 16 holdings) by 3 for a write and by the DMA for one.
	if want := 93 * (4*(3+3+1+1) + 32*(3+1)); asked != want {
		t.Errorf("%d were Asked, want %d", asked, want)
	}
}

// Promise 10: when all that are Asked are Forgot, nobody is Asked any more; of a write nobody but the one that asks is a Holder then.
func TestEntryWhenAllAreForgotNobodyIsAsked(t *testing.T) {
	for e := range everyEntry {
		for _, r := range askRows {
			for _, from := range r.froms {
				list := impl.Asked(e, r.kind, from)
				for _, order := range [][]int64{list, reversed(list)} {
					checkAllForgot(t, e, r, from, forgetAll(e, order))
				}
			}
		}
		stopIfFailed(t)
	}
}

func checkAllForgot(t *testing.T, e impl.Entry, r askRow, from int64, after impl.Entry) {
	t.Helper()
	checkEntryOk(t, after, true)
	checkAsked(t, after, r.kind, from, nil)
	was, holders := impl.Holders(e), impl.Holders(after)
	switch {
	case !r.all && e.Owner == noOwner:
		// Nobody was Asked: all have it still.
		checkHolders(t, after, was)
	case slices.Contains(was, from):
		checkHolders(t, after, []int64{from})
	default:
		checkHolders(t, after, nil)
	}
	if r.kind == impl.KdPut && len(holders) != 0 {
		t.Errorf("of %+v all are Forgot, and %v are Holders", e, holders)
	}
}

// Promise 10: when all Holders are Forgot nobody is one, nobody is Asked by whomever, and all else stays.
func TestEntryWhenAllAreForgotNobodyIsAHolder(t *testing.T) {
	for e := range everyEntry {
		holders := impl.Holders(e)
		for _, order := range [][]int64{holders, reversed(holders), {0, 1, 2, 3}, {3, 1, 0, 2}} {
			after := forgetAll(e, order)
			want := entryCopy(e)
			want.Owner, want.Sharers = noOwner, 0
			if !sameEntry(after, want) {
				t.Errorf("of %+v all are Forgot, and it is %+v", e, after)
			}
			checkHolders(t, after, nil)
			for _, r := range askRows {
				for _, from := range r.froms {
					checkAsked(t, after, r.kind, from, nil)
				}
			}
		}
		stopIfFailed(t)
	}
}

// Promise 10 in all orders: whoever is left is a Holder till its own turn comes.
func TestEntryForgotInAllOrders(t *testing.T) {
	orders := 0
	for order := range everyList(4, 0, 3) {
		if !slices.Equal(slices.Sorted(slices.Values(order)), []int64{0, 1, 2, 3}) {
			continue
		}
		orders++
		e := impl.Entry{Owner: noOwner, Sharers: 15, Busy: true, Kind: impl.KdPut, From: 5, Left: 4, Mask: 3, Data: []int64{1, 2}}
		for i, core := range order {
			e = impl.Forgot(e, core)
			rest := slices.Sorted(slices.Values(order[i+1:]))
			checkHolders(t, e, rest)
			checkAsked(t, e, impl.KdPut, 5, rest)
			checkAsked(t, e, impl.KdWrite, core, rest)
		}
	}
	if orders != 24 {
		t.Errorf("%d orders were looked at", orders)
	}
}

// ownMemoryEntries are right ones with and without Data, and wrong ones.
var ownMemoryEntries = []impl.Entry{
	{Owner: -1},
	{Owner: 1},
	{Owner: -1, Sharers: 15},
	{Owner: -1, Data: []int64{}},
	{Owner: 1, Busy: true, Kind: 2, From: 0, Left: 1},
	{Owner: 1, Busy: true, Kind: 4, From: 5, Left: 1, Mask: 3, Data: []int64{5, 6}},
	{Owner: -1, Sharers: 15, Busy: true, Kind: 4, From: 5, Left: 4, Mask: 0, Data: []int64{5, 6}},
	{Owner: -2, Busy: true, Kind: 4, From: 5, Left: 4, Mask: 0, Data: []int64{5, 6}},
	{Owner: 1, Data: []int64{5, 6}},
	{Owner: 1, Busy: true, Kind: 4, From: 5, Left: 1, Data: []int64{5}},
	{Owner: 1, Busy: true, Kind: 4, From: 5, Left: 1, Data: []int64{5, 6, 7}},
}

func TestEntryForgotIsNewMemory(t *testing.T) {
	for _, e := range ownMemoryEntries {
		for core := int64(-1); core <= 5; core++ {
			given := roomyEntry(e)
			answer, other := impl.Forgot(given, core), impl.Forgot(given, core)
			want := slices.Clone(answer.Data)
			checkOwnMemory(t, fmt.Sprintf("Forgot(%+v, %d)", e, core), answer.Data, given.Data)
			spoil(answer.Data)
			if !slices.Equal(other.Data, want) {
				t.Errorf("Forgot(%+v, %d): two answers share memory", e, core)
			}
		}
	}
}

func TestEntryListsAreNewMemory(t *testing.T) {
	for _, e := range ownMemoryEntries {
		asks := map[string]func(impl.Entry) []int64{"Holders": impl.Holders}
		for _, r := range askRows {
			for _, from := range []int64{0, 3, 5} {
				asks[fmt.Sprintf("Asked for %d by %d", r.kind, from)] = func(e impl.Entry) []int64 { return impl.Asked(e, r.kind, from) }
			}
		}
		for name, ask := range asks {
			given := roomyEntry(e)
			answer, other := ask(given), ask(given)
			want := slices.Clone(answer)
			checkOwnMemory(t, fmt.Sprintf("%s of %+v", name, e), answer, given.Data)
			spoil(answer)
			if !slices.Equal(other, want) || !slices.Equal(ask(e), want) {
				t.Errorf("%s of %+v: two answers share memory", name, e)
			}
		}
	}
}

// One entry may be forgotten again and again: the first one stays as it was.
func TestEntryStaysWhenForgotten(t *testing.T) {
	for e := range everyEntry {
		given := roomyEntry(e)
		after := forgetAll(given, []int64{0, 1, 2, 3})
		spoil(after.Data)
		if !sameEntry(given, e) || !untouched(given.Data, e.Data) {
			t.Fatalf("%+v is %+v when all are Forgot", e, given)
		}
	}
}
