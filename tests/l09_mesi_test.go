package tests

import (
	"fmt"
	"math"
	"slices"
	"testing"

	"loop.example/g00342/impl"
)

// noNext stands in a row where the event does not happen.
const noNext = -1

// nextRows tell, written out by hand, what becomes of each state: by EvLoad, EvStore, EvFetch, EvInvalid and EvEvict.
var nextRows = [4][5]int64{
	impl.StI: {noNext, noNext, noNext, noNext, noNext},
	impl.StS: {1, noNext, noNext, 0, 0},
	impl.StE: {2, 3, 1, 0, 0},
	impl.StM: {3, 3, 1, 0, 0},
}

// Cut to fewer bits, or taken without their sign, some of these would be right events.
var wrongEvents = []int64{math.MinInt64, math.MinInt64 + 1, math.MinInt64 + 4, -1 << 32, -256, -255, -5, -4, -3, -2, -1, 0, 6, 7, 8, 9, 255, 256, 257, 261, 1 << 32, 1<<32 + 1, 1<<32 + 5, math.MaxInt64 - 1, math.MaxInt64}

// Cut to fewer bits, or taken without their sign, some of these would be right states.
var farStates = append([]int64{-2, 6, 7, 8, -256, -255, 257, 258, 259, -1<<32 + 1, 1 << 32, 1<<32 + 2, 1<<32 + 3, math.MinInt64 + 2, math.MinInt64 + 3}, wrongStates...)

var belowNought = []int64{math.MinInt64, math.MinInt64 + 1, -1 << 40, -1 << 32, -1<<32 + 1, -256, -10000, -3, -2, -1}

func checkNext(t *testing.T, state int64, event int64, want int64, is bool) {
	t.Helper()
	if then, happens := impl.Next(state, event); then != want || happens != is {
		t.Errorf("Next(%d, %d) = %d, %v, want %d, %v", state, event, then, happens, want, is)
	}
}

// pictureOfStates is short also of a long list, so that a fault in one can be read.
func pictureOfStates(states []int64) string {
	if len(states) <= 12 {
		return fmt.Sprint(states)
	}
	return fmt.Sprintf("%v and %d more", states[:12], len(states)-12)
}

func checkTogether(t *testing.T, states []int64, want bool) {
	t.Helper()
	given := roomy(states)
	if got := impl.Together(given); got != want {
		t.Errorf("Together(%s) = %v, want %v", pictureOfStates(states), got, want)
	}
	if !untouched(given, states) {
		t.Errorf("Together(%s) wrote into its argument", pictureOfStates(states))
	}
}

func checkAsks(t *testing.T, state int64, write bool, want int64) {
	t.Helper()
	if got := impl.Asks(state, write); got != want {
		t.Errorf("Asks(%d, %v) = %d, want %d", state, write, got, want)
	}
}

func checkGranted(t *testing.T, write bool, others int64, want int64) {
	t.Helper()
	if got := impl.Granted(write, others); got != want {
		t.Errorf("Granted(%v, %d) = %d, want %d", write, others, got, want)
	}
}

// byPairs is the chapter's text over again: each one is held against each other one.
func byPairs(states []int64) bool {
	for i, one := range states {
		if one < 0 || one > 3 {
			return false
		}
		for j, other := range states {
			if i != j && (one == 2 || one == 3) && other != 0 {
				return false
			}
		}
	}
	return true
}

// everyList gives all lists of that many states, each from least to most.
func everyList(length int, least int64, most int64) func(func([]int64) bool) {
	return func(yield func([]int64) bool) {
		list := slices.Repeat([]int64{least}, length)
		for {
			if !yield(slices.Clone(list)) {
				return
			}
			i := 0
			for i < length && list[i] == most {
				list[i] = least
				i++
			}
			if i == length {
				return
			}
			list[i]++
		}
	}
}

// togetherLists gives, by the text over again, all lists of one to five states that are Together.
func togetherLists(yield func([]int64) bool) {
	for length := 1; length <= 5; length++ {
		for list := range everyList(length, 0, 3) {
			if byPairs(list) && !yield(list) {
				return
			}
		}
	}
}

// withState gives a long list of one state with another one at one place.
func withState(length int, state int64, at int, other int64) []int64 {
	list := slices.Repeat([]int64{state}, length)
	list[at] = other
	return list
}

// told is what all others have when they were told of an event; whoever did it has this then.
func told(states []int64, who int, event int64, then int64) []int64 {
	after := make([]int64, len(states))
	for i, state := range states {
		after[i], _ = impl.Next(state, event)
	}
	after[who] = then
	return after
}

func checkStillTogether(t *testing.T, before []int64, who int, event int64, after []int64) {
	t.Helper()
	if !impl.Together(after) || !byPairs(after) {
		t.Errorf("%v are together; %d does %d, and then %v are not", before, who, event, after)
	}
}

func TestMesiNumbers(t *testing.T) {
	for want, event := range []int64{1: impl.EvLoad, 2: impl.EvStore, 3: impl.EvFetch, 4: impl.EvInvalid, 5: impl.EvEvict} {
		if event != int64(want) {
			t.Errorf("event %d is %d", want, event)
		}
	}
	for want, asked := range []int64{impl.AsNone, impl.AsRead, impl.AsWrite} {
		if asked != int64(want) {
			t.Errorf("what is asked is %d, want %d", asked, want)
		}
	}
}

func TestMesiNext(t *testing.T) {
	for state, row := range nextRows {
		for i, then := range row {
			if then == noNext {
				checkNext(t, int64(state), int64(i+1), int64(state), false)
			} else {
				checkNext(t, int64(state), int64(i+1), then, true)
			}
		}
	}
}

func TestMesiNextOfWrongEvents(t *testing.T) {
	for state := range int64(4) {
		for _, event := range wrongEvents {
			checkNext(t, state, event, state, false)
		}
	}
}

// A state that there is not stays as it is, whatever happens.
func TestMesiNextOfWrongStates(t *testing.T) {
	for _, state := range farStates {
		for event := int64(1); event <= 5; event++ {
			checkNext(t, state, event, state, false)
		}
		for _, event := range wrongEvents {
			checkNext(t, state, event, state, false)
		}
	}
}

// States and events are told apart: no small one is taken for the other.
func TestMesiNextOfSmallNumbers(t *testing.T) {
	for state := int64(-40); state <= 40; state++ {
		for event := int64(-40); event <= 40; event++ {
			want, is := state, false
			if state >= 0 && state <= 3 && event >= 1 && event <= 5 && nextRows[state][event-1] != noNext {
				want, is = nextRows[state][event-1], true
			}
			checkNext(t, state, event, want, is)
		}
	}
}

func TestMesiTogether(t *testing.T) {
	rows := []struct {
		states []int64
		want   bool
	}{
		{nil, true},
		{[]int64{}, true},
		{[]int64{0}, true},
		{[]int64{1}, true},
		{[]int64{2}, true},
		{[]int64{3}, true},
		{[]int64{-1}, false},
		{[]int64{4}, false},
		{[]int64{0, 0}, true},
		{[]int64{1, 1}, true},
		{[]int64{0, 1}, true},
		{[]int64{2, 0}, true},
		{[]int64{0, 3}, true},
		{[]int64{2, 1}, false},
		{[]int64{1, 3}, false},
		{[]int64{2, 2}, false},
		{[]int64{3, 3}, false},
		{[]int64{2, 3}, false},
		{[]int64{3, 2}, false},
		{[]int64{1, 1, 0}, true},
		{[]int64{1, 1, 1, 1}, true},
		{[]int64{0, 0, 0, 0}, true},
		{[]int64{0, 2, 0, 0}, true},
		{[]int64{0, 0, 0, 3}, true},
		{[]int64{0, 2, 0, 1}, false},
		{[]int64{3, 0, 0, 1}, false},
		{[]int64{2, 0, 0, 2}, false},
		{[]int64{3, 0, 0, 3}, false},
		{[]int64{1, 0, 2, 3}, false},
		{[]int64{0, 0, 0, 4}, false},
		{[]int64{-1, 0, 0, 0}, false},
	}
	for _, r := range rows {
		checkTogether(t, r.states, r.want)
	}
	if !impl.Together(nil) {
		t.Error("Together(nil) is false: nobody has it")
	}
}

// All short lists there are, with states one past each end among them.
func TestMesiTogetherOfEveryList(t *testing.T) {
	for length := range 6 {
		for list := range everyList(length, -1, 4) {
			checkTogether(t, list, byPairs(list))
		}
		stopIfFailed(t)
	}
}

// One that is no state spoils every list, wherever it stands.
func TestMesiTogetherOfOneWrongState(t *testing.T) {
	for _, wrong := range farStates {
		checkTogether(t, []int64{wrong}, false)
		checkTogether(t, []int64{wrong, wrong}, false)
		for states := range togetherLists {
			for i := range states {
				list := slices.Clone(states)
				list[i] = wrong
				checkTogether(t, list, false)
			}
		}
		stopIfFailed(t)
	}
}

func TestMesiTogetherOfLongLists(t *testing.T) {
	for _, length := range []int{64, 255, 256, 257, 1000, 65536, 100003} {
		checkTogether(t, slices.Repeat([]int64{0}, length), true)
		checkTogether(t, slices.Repeat([]int64{1}, length), true)
		for _, at := range []int{0, 1, length / 2, length - 1} {
			checkTogether(t, withState(length, 0, at, 1), true)
			checkTogether(t, withState(length, 1, at, 0), true)
			for _, alone := range []int64{2, 3} {
				checkTogether(t, withState(length, 0, at, alone), true)
				checkTogether(t, withState(length, 1, at, alone), false)
				checkTogether(t, withState(length, alone, at, 0), false)
				two := withState(length, 0, at, alone)
				two[(at+7)%length] = 1
				checkTogether(t, two, false)
				two[(at+7)%length] = 2
				checkTogether(t, two, false)
				two[(at+7)%length] = 3
				checkTogether(t, two, false)
			}
			for _, wrong := range []int64{math.MinInt64, -1, 4, math.MaxInt64} {
				checkTogether(t, withState(length, 0, at, wrong), false)
				checkTogether(t, withState(length, 1, at, wrong), false)
			}
		}
	}
}

// As many of each as would come round to 0 or 1 in a small count.
func TestMesiTogetherOfManyAlone(t *testing.T) {
	for _, length := range []int{2, 3, 4, 255, 256, 257, 258, 65536, 65537} {
		for _, alone := range []int64{2, 3} {
			checkTogether(t, slices.Repeat([]int64{alone}, length), false)
		}
	}
}

func TestMesiAsks(t *testing.T) {
	reads := []int64{impl.AsRead, impl.AsNone, impl.AsNone, impl.AsNone}
	writes := []int64{impl.AsWrite, impl.AsWrite, impl.AsNone, impl.AsNone}
	for state := range int64(4) {
		checkAsks(t, state, false, reads[state])
		checkAsks(t, state, true, writes[state])
	}
}

func TestMesiAsksOfWrongStates(t *testing.T) {
	for _, state := range farStates {
		checkAsks(t, state, false, -1)
		checkAsks(t, state, true, -1)
	}
	for n := int64(1); n <= 300; n++ {
		checkAsks(t, -n, false, -1)
		checkAsks(t, -n, true, -1)
		checkAsks(t, 3+n, false, -1)
		checkAsks(t, 3+n, true, -1)
	}
}

func TestMesiGranted(t *testing.T) {
	checkGranted(t, false, 0, impl.StE)
	checkGranted(t, true, 0, impl.StM)
	for _, others := range []int64{1, 2, 3, 4, 5, 7, 8, 255, 256, 65536, 1 << 32, 1<<32 + 1, 1 << 62, math.MaxInt64 - 1, math.MaxInt64} {
		checkGranted(t, false, others, impl.StS)
		checkGranted(t, true, others, impl.StM)
	}
	for others := int64(1); others <= 300; others++ {
		checkGranted(t, false, others, impl.StS)
		checkGranted(t, true, others, impl.StM)
	}
}

// Of a write too: how many others there are is asked ahead of all.
func TestMesiGrantedOfFewerThanNone(t *testing.T) {
	for _, others := range belowNought {
		checkGranted(t, false, others, -1)
		checkGranted(t, true, others, -1)
	}
}

// Promise 9: one reads or writes where it may, and all others are told.
func TestMesiStayTogether(t *testing.T) {
	deeds := []struct{ does, event int64 }{{impl.EvLoad, impl.EvFetch}, {impl.EvStore, impl.EvInvalid}}
	done := 0
	for states := range togetherLists {
		checkTogether(t, states, true)
		for who, state := range states {
			for _, d := range deeds {
				then, may := impl.Next(state, d.does)
				if !may {
					continue
				}
				checkStillTogether(t, states, who, d.does, told(states, who, d.event, then))
				done++
			}
		}
		stopIfFailed(t)
	}
	// Of n states 2^(n-1) lists have a StS at one place, which may be read; n lists have a StE, n a StM, to be read or written.
	if want := (1 + 2*2 + 3*4 + 4*8 + 5*16) + 4*(1+2+3+4+5); done != want {
		t.Errorf("%d deeds were done, want %d", done, want)
	}
}

// Promise 9: one lets go by itself, or is told by itself, and nobody else hears of it.
func TestMesiStayTogetherWhenOneIsTold(t *testing.T) {
	for states := range togetherLists {
		for who, state := range states {
			for _, event := range []int64{impl.EvEvict, impl.EvInvalid, impl.EvFetch, impl.EvLoad, impl.EvStore} {
				then, _ := impl.Next(state, event)
				after := slices.Clone(states)
				after[who] = then
				checkStillTogether(t, states, who, event, after)
			}
		}
		stopIfFailed(t)
	}
}

// Promise 9: one has not what it wants, asks for it, all others are told, and it has what it is granted.
func TestMesiStayTogetherWhenGranted(t *testing.T) {
	for states := range togetherLists {
		for who := range states {
			for _, write := range []bool{false, true} {
				after, got := asked(states, who, write)
				checkStillTogether(t, states, who, got, after)
				checkAsks(t, after[who], write, impl.AsNone)
				checkHasItThen(t, states, who, write, after[who])
			}
		}
		stopIfFailed(t)
	}
}

// asked does what one asks for, and gives what all have then and the event that the others were told of.
func asked(states []int64, who int, write bool) ([]int64, int64) {
	event := int64(impl.EvFetch)
	if write {
		event = impl.EvInvalid
	}
	if impl.Asks(states[who], write) == impl.AsNone {
		return slices.Clone(states), event
	}
	after := told(states, who, event, impl.StI)
	others := int64(0)
	for _, state := range after {
		if state != impl.StI {
			others++
		}
	}
	after[who] = impl.Granted(write, others)
	return after, event
}

// checkHasItThen holds what one has against what the chapter lets it have: of a read it may be alone only where nobody else had it.
func checkHasItThen(t *testing.T, before []int64, who int, write bool, got int64) {
	t.Helper()
	want := before[who]
	if write && want < 2 {
		want = 3
	} else if !write && want == 0 {
		want = 2
		for _, state := range before {
			if state != 0 {
				want = 1
			}
		}
	}
	if got != want {
		t.Errorf("of %v %d asks (a write: %v) and has %d then, want %d", before, who, write, got, want)
	}
}

// Promise 9, of four that have nothing at first: whatever they do one behind the other, all that can come of it is Together.
func TestMesiStayTogetherForLong(t *testing.T) {
	type four [4]int64
	seen := map[four]int{{}: 0}
	work := []four{{}}
	for len(work) > 0 && len(seen) <= 256 {
		states := work[0]
		work = work[1:]
		for _, after := range allThatComesOf(states[:]) {
			checkTogether(t, after, true)
			next := four(after)
			if _, is := seen[next]; !is {
				seen[next] = len(seen)
				work = append(work, next)
			}
		}
		stopIfFailed(t)
	}
	// Each of four has it or not, 16 lists; and each of four may be alone with it, as StE or StM.
	if len(seen) != 24 {
		t.Errorf("%d lists of four states can come, want 24", len(seen))
	}
}

func allThatComesOf(states []int64) [][]int64 {
	var all [][]int64
	for who, state := range states {
		for _, write := range []bool{false, true} {
			after, event := asked(states, who, write)
			does := int64(impl.EvLoad)
			if write {
				does = impl.EvStore
			}
			then, _ := impl.Next(after[who], does)
			if after[who] != state {
				all = append(all, slices.Clone(after))
			}
			all = append(all, told(after, who, event, then))
		}
		then, _ := impl.Next(state, impl.EvEvict)
		gone := slices.Clone(states)
		gone[who] = then
		all = append(all, gone)
	}
	return all
}
