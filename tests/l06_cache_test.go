package tests

import (
	"fmt"
	"math"
	"slices"
	"strings"
	"testing"

	"loop.example/g00342/impl"
)

const noLine = int64(-1)

// lastTrees is written out, so that it shares no rule with the program.
var lastTrees = map[int64]int64{1: 0, 2: 1, 4: 7}

var wrongStates = []int64{math.MinInt64, math.MinInt64 + 1, -1 << 32, -3, -1, 4, 5, 255, 256, 1<<32 + 1, math.MaxInt64 - 1, math.MaxInt64}

// noLineNumbers are beside the lines 0 to 15; modulo 2 or 4, or cut to fewer bits, some of them would be small ones.
var noLineNumbers = append([]int64{-4, -3, 16, 20, 255, 256, 1<<32 + 1}, farLines...)

func wayOf(line int64, state int64, data ...int64) impl.Way {
	return impl.Way{Line: line, State: state, Data: data}
}

func empty() impl.Way { return impl.Way{Line: noLine} }

func sameWay(a impl.Way, b impl.Way) bool {
	return a.Line == b.Line && a.State == b.State && slices.Equal(a.Data, b.Data)
}

func sameWays(a []impl.Way, b []impl.Way) bool { return slices.EqualFunc(a, b, sameWay) }

func sameStore(a impl.Cache, b impl.Cache) bool {
	return slices.EqualFunc(a.Sets, b.Sets, sameWays) && slices.Equal(a.Trees, b.Trees)
}

// emptyStore is made by the tests' own loops, of whatever size, right or not.
func emptyStore(sets int64, ways int64) impl.Cache {
	c := impl.Cache{Trees: make([]int64, sets)}
	for range sets {
		var set []impl.Way
		for range ways {
			set = append(set, empty())
		}
		c.Sets = append(c.Sets, set)
	}
	return c
}

// roomyStore gives a copy with spare room behind each list of it, in which stand things that are right ones.
func roomyStore(c impl.Cache) impl.Cache {
	var wide impl.Cache
	for _, set := range c.Sets {
		var row []impl.Way
		for _, w := range set {
			row = append(row, roomyWay(w))
		}
		row = append(row, wayOf(15, impl.StM, 77, 78))
		wide.Sets = append(wide.Sets, row[:len(set)])
	}
	wide.Sets = append(wide.Sets, []impl.Way{wayOf(14, impl.StE, 76, 75)})[:len(c.Sets)]
	wide.Trees = roomy(c.Trees)
	return wide
}

func roomyWay(w impl.Way) impl.Way { return wayOf(w.Line, w.State, roomy(w.Data)...) }

// storeCopy shares nothing with the store; it is without spare room.
func storeCopy(c impl.Cache) impl.Cache {
	fresh := impl.Cache{Trees: slices.Clone(c.Trees)}
	for _, set := range c.Sets {
		var row []impl.Way
		for _, w := range set {
			row = append(row, wayOf(w.Line, w.State, slices.Clone(w.Data)...))
		}
		fresh.Sets = append(fresh.Sets, row)
	}
	return fresh
}

// withWay gives a copy of the store in which this place is that Way.
func withWay(c impl.Cache, set int64, way int64, w impl.Way) impl.Cache {
	fresh := storeCopy(c)
	fresh.Sets[set][way] = wayOf(w.Line, w.State, slices.Clone(w.Data)...)
	return fresh
}

// withTree gives a copy of the store in which the tree of this Set is that one.
func withTree(c impl.Cache, set int64, tree int64) impl.Cache {
	fresh := storeCopy(c)
	fresh.Trees[set] = tree
	return fresh
}

// picture tells all of a store, with the spare room behind each list and where each list stands.
func picture(c impl.Cache) string {
	var told strings.Builder
	fmt.Fprintf(&told, "%p %v %p", c.Trees, c.Trees[:cap(c.Trees)], c.Sets)
	for _, set := range c.Sets[:cap(c.Sets)] {
		fmt.Fprintf(&told, "\n%p", set)
		for _, w := range set[:cap(set)] {
			told.WriteString(pictureOfWay(w))
		}
	}
	return told.String()
}

func pictureOfWay(w impl.Way) string {
	return fmt.Sprintf(" [%d %d %p %v]", w.Line, w.State, w.Data, w.Data[:cap(w.Data)])
}

func checkCacheOk(t *testing.T, c impl.Cache, want bool) {
	t.Helper()
	given := roomyStore(c)
	was := picture(given)
	if got := impl.CacheOk(given); got != want {
		t.Errorf("CacheOk(%v) = %v", c, got)
	}
	if picture(given) != was {
		t.Errorf("CacheOk(%v) wrote into its argument", c)
	}
}

func checkFind(t *testing.T, c impl.Cache, line int64, want impl.Way, number int64) {
	t.Helper()
	given := roomyStore(c)
	was := picture(given)
	got, at := impl.Find(given, line)
	if !sameWay(got, want) || at != number {
		t.Errorf("Find(%v, %d) = %v, %d, want %v, %d", c, line, got, at, want, number)
	}
	if picture(given) != was {
		t.Errorf("Find(%v, %d) wrote into its argument", c, line)
	}
}

func checkFilled(t *testing.T, c impl.Cache, w impl.Way, want impl.Cache, is bool) {
	t.Helper()
	given, givenWay := roomyStore(c), roomyWay(w)
	was, wasWay := picture(given), pictureOfWay(givenWay)
	got, done := impl.Filled(given, givenWay)
	if !sameStore(got, want) || done != is {
		t.Errorf("Filled(%v, %v) = %v, %v, want %v, %v", c, w, got, done, want, is)
	}
	if picture(given) != was || pictureOfWay(givenWay) != wasWay {
		t.Errorf("Filled(%v, %v) wrote into an argument", c, w)
	}
}

func checkDropped(t *testing.T, c impl.Cache, line int64, want impl.Cache, is bool) {
	t.Helper()
	given := roomyStore(c)
	was := picture(given)
	got, done := impl.Dropped(given, line)
	if !sameStore(got, want) || done != is {
		t.Errorf("Dropped(%v, %d) = %v, %v, want %v, %v", c, line, got, done, want, is)
	}
	if picture(given) != was {
		t.Errorf("Dropped(%v, %d) wrote into its argument", c, line)
	}
}

func checkLeaves(t *testing.T, c impl.Cache, line int64, want int64) {
	t.Helper()
	given := roomyStore(c)
	was := picture(given)
	if got := impl.Leaves(given, line); got != want {
		t.Errorf("Leaves(%v, %d) = %d, want %d", c, line, got, want)
	}
	if picture(given) != was {
		t.Errorf("Leaves(%v, %d) wrote into its argument", c, line)
	}
}

// checkNoStore asks all that is asked of a store, of right and of wrong things beside it.
func checkNoStore(t *testing.T, c impl.Cache) {
	t.Helper()
	checkCacheOk(t, c, false)
	for _, line := range []int64{math.MinInt64, -1, 0, 1, 2, 4, 15, 16, math.MaxInt64} {
		checkFind(t, c, line, empty(), noWay)
		checkDropped(t, c, line, impl.Cache{}, false)
		checkLeaves(t, c, line, noLine)
		checkFilled(t, c, wayOf(line, impl.StS, 1, 2), impl.Cache{}, false)
	}
	checkFilled(t, c, empty(), impl.Cache{}, false)
	checkFilled(t, c, wayOf(3, 4, 1, 2), impl.Cache{}, false)
	checkFilled(t, c, wayOf(3, impl.StM, 1), impl.Cache{}, false)
}

// everySize gives all sizes of stores that are right.
func everySize(yield func(sets int64, ways int64) bool) {
	for _, sets := range rightSizes {
		for _, ways := range rightSizes {
			if !yield(sets, ways) {
				return
			}
		}
	}
}

// linesOfSet gives the lines that are dealt to this Set.
func linesOfSet(sets int64, set int64) []int64 {
	var list []int64
	for line, dealt := range setsOf(sets, 16) {
		if dealt == set {
			list = append(list, int64(line))
		}
	}
	return list
}

// fullStore has in each place another line, and no two words alike; the last lines of each Set are not there.
func fullStore(sets int64, ways int64) impl.Cache {
	c := emptyStore(sets, ways)
	for set := range sets {
		lines := linesOfSet(sets, set)
		for way := range ways {
			line := lines[way]
			c.Sets[set][way] = wayOf(line, 1+line%3, 100+line, 200+line)
		}
	}
	return c
}

// The lines of the second half of fullStore's Ways are taken out; trees are the last ones.
func halfStore(sets int64, ways int64) impl.Cache {
	c := fullStore(sets, ways)
	for set := range sets {
		for way := ways / 2; way < ways; way++ {
			c.Sets[set][way] = empty()
		}
		c.Trees[set] = lastTrees[ways]
	}
	return c
}

func TestStoreNewOfEverySize(t *testing.T) {
	for sets, ways := range everySize {
		c, is := impl.NewCache(sets, ways)
		if !is || !sameStore(c, emptyStore(sets, ways)) {
			t.Errorf("NewCache(%d, %d) = %v, %v", sets, ways, c, is)
		}
		checkCacheOk(t, c, true)
		for line := int64(-2); line <= 17; line++ {
			checkFind(t, c, line, empty(), noWay)
			checkDropped(t, c, line, c, false)
			checkLeaves(t, c, line, noLine)
		}
	}
}

func checkNoNewCache(t *testing.T, sets int64, ways int64) {
	t.Helper()
	if c, is := impl.NewCache(sets, ways); is || len(c.Sets) != 0 || len(c.Trees) != 0 {
		t.Errorf("NewCache(%d, %d) = %v, %v", sets, ways, c, is)
	}
}

func TestStoreNewOfWrongSizes(t *testing.T) {
	wrong := slices.Concat(wrongSizes, farWays, farLines)
	for _, size := range wrong {
		for _, right := range rightSizes {
			checkNoNewCache(t, size, right)
			checkNoNewCache(t, right, size)
		}
		checkNoNewCache(t, size, size)
	}
	for sets := int64(-5); sets <= 20; sets++ {
		for ways := int64(-5); ways <= 20; ways++ {
			if !slices.Contains(rightSizes, sets) || !slices.Contains(rightSizes, ways) {
				checkNoNewCache(t, sets, ways)
			}
		}
	}
}

// Each line with each state, at each place of each store: it is right just where the line is dealt to that Set.
func TestStoreOfEachLineAtEachPlace(t *testing.T) {
	for sets, ways := range everySize {
		dealt := setsOf(sets, 16)
		for set := range sets {
			for way := range ways {
				for line := int64(0); line <= 15; line++ {
					for state := int64(impl.StS); state <= impl.StM; state++ {
						w := wayOf(line, state, 30+line, 60+line)
						c := withWay(emptyStore(sets, ways), set, way, w)
						if dealt[line] != set {
							checkNoStore(t, c)
							continue
						}
						checkCacheOk(t, c, true)
						checkFind(t, c, line, w, way)
						checkDropped(t, c, line, emptyStore(sets, ways), true)
					}
				}
			}
		}
	}
}

// wayRow is a Way, and what it is.
type wayRow struct {
	w           impl.Way
	empty, full bool
}

// everyKindOfWay gives each line from -3 to 18 with each state from -2 to 5, with right Data, with none, and with wrong Data; and such as are far away.
func everyKindOfWay(yield func(wayRow) bool) {
	lists := [][]int64{nil, {}, {0, 0}, {9999, 9999}, {5, 6}, {5}, {5, 6, 7}, {-1, 6}, {5, 10000}}
	isLine := []bool{false, false, true, true, true, false, false, false, false}
	lines := slices.Concat([]int64{-3, -2, -1, 0, 1, 2, 3, 4, 5, 6, 7, 8, 9, 10, 11, 12, 13, 14, 15, 16, 17, 18}, noLineNumbers)
	states := append([]int64{-2, -1, 0, 1, 2, 3, 4, 5}, wrongStates...)
	for _, line := range lines {
		for _, state := range states {
			for i, list := range lists {
				r := wayRow{w: wayOf(line, state, list...)}
				r.empty = line == -1 && state == 0 && len(list) == 0
				r.full = line >= 0 && line <= 15 && state >= 1 && state <= 3 && isLine[i]
				if !yield(r) {
					return
				}
			}
		}
	}
}

func TestStoreOfEveryKindOfWay(t *testing.T) {
	count := 0
	for r := range everyKindOfWay {
		one := impl.Cache{Sets: [][]impl.Way{{r.w}}, Trees: []int64{0}}
		checkCacheOk(t, one, r.empty || r.full)
		last := withWay(emptyStore(1, 4), 0, 3, r.w)
		checkCacheOk(t, last, r.empty || r.full)
		if !r.full {
			checkFilled(t, emptyStore(1, 1), r.w, emptyStore(1, 1), false)
			checkFilled(t, halfStore(2, 2), r.w, halfStore(2, 2), false)
			continue
		}
		count++
		checkFilled(t, emptyStore(1, 1), r.w, one, true)
	}
	if count != 16*3*3 {
		t.Fatalf("looked at %d Ways that can be filled", count)
	}
}

func TestStoreOfWrongData(t *testing.T) {
	for bad := range noLines {
		for state := int64(impl.StS); state <= impl.StM; state++ {
			w := wayOf(6, state, bad...)
			checkNoStore(t, withWay(fullStore(2, 4), 0, 3, w))
			checkFilled(t, halfStore(2, 4), w, halfStore(2, 4), false)
		}
		if len(bad) > 0 {
			checkNoStore(t, withWay(fullStore(2, 4), 1, 0, wayOf(noLine, impl.StI, bad...)))
		}
	}
}

// A wrong Way is found at whatever place it is.
func TestStoreOfOneWrongWayAtEachPlace(t *testing.T) {
	wrong := []impl.Way{{}, wayOf(noLine, impl.StS), wayOf(noLine, impl.StI, 5, 6), wayOf(noLine, impl.StM, 5, 6), wayOf(-2, impl.StI), wayOf(16, impl.StS, 5, 6), wayOf(8, impl.StI), wayOf(8, impl.StI, 5, 6), wayOf(8, impl.StS), wayOf(8, 4, 5, 6), wayOf(8, -1, 5, 6), wayOf(8, impl.StS, 5), wayOf(8, impl.StS, 5, 6, 7), wayOf(8, impl.StM, 5, -1), wayOf(8, impl.StM, 10000, 5)}
	for sets, ways := range everySize {
		for set := range sets {
			for way := range ways {
				for _, w := range wrong {
					if w.Line == 8 {
						w.Line = linesOfSet(sets, set)[3]
					}
					checkNoStore(t, withWay(emptyStore(sets, ways), set, way, w))
					checkNoStore(t, withWay(fullStore(sets, ways), set, way, w))
				}
			}
		}
	}
}

func TestStoreOfEveryTree(t *testing.T) {
	for sets, ways := range everySize {
		for set := range sets {
			for tree := int64(-3); tree <= 20; tree++ {
				is := tree >= 0 && tree <= lastTrees[ways]
				checkCacheOk(t, withTree(emptyStore(sets, ways), set, tree), is)
				checkCacheOk(t, withTree(fullStore(sets, ways), set, tree), is)
			}
			for _, tree := range append([]int64{-1, lastTrees[ways] + 1}, farTrees...) {
				checkNoStore(t, withTree(fullStore(sets, ways), set, tree))
			}
		}
	}
}

// storeOfLengths has Sets of these lengths, all empty, and this many Trees.
func storeOfLengths(lengths []int64, trees int64) impl.Cache {
	c := impl.Cache{Trees: make([]int64, trees)}
	for _, ways := range lengths {
		c.Sets = append(c.Sets, emptyStore(1, ways).Sets[0])
	}
	return c
}

// rightLengths tells whether they are all alike, and are as the chapter has them.
func rightLengths(lengths []int64) bool {
	short := slices.Clone(lengths)
	slices.Sort(short)
	sizes := int64(len(short))
	return slices.Contains(rightSizes, sizes) && short[0] == short[sizes-1] && slices.Contains(rightSizes, short[0])
}

// All lengths from 0 to 5 of up to 5 Sets, each with up to 6 Trees.
func TestStoreOfAllLengths(t *testing.T) {
	count := 0
	for sets := range 6 {
		kinds := 1
		for range sets {
			kinds *= 6
		}
		for kind := range kinds {
			var lengths []int64
			for range sets {
				lengths = append(lengths, int64(kind%6))
				kind /= 6
			}
			for trees := range int64(7) {
				is := trees == int64(sets) && rightLengths(lengths)
				if is {
					count++
				}
				if got := impl.CacheOk(storeOfLengths(lengths, trees)); got != is {
					t.Errorf("CacheOk of lengths %v and %d trees = %v", lengths, trees, got)
				}
			}
		}
	}
	if count != 9 {
		t.Fatalf("looked at %d right sizes", count)
	}
}

func TestStoreOfWrongLengths(t *testing.T) {
	for sets, ways := range everySize {
		for trees := range int64(10) {
			c := fullStore(sets, ways)
			c.Trees = make([]int64, trees)
			if trees == sets {
				checkCacheOk(t, c, true)
				continue
			}
			checkNoStore(t, c)
		}
		for set := range sets {
			for length := range int64(10) {
				c := emptyStore(sets, ways)
				c.Sets[set] = emptyStore(1, length).Sets[0]
				if sets > 1 && length != ways || !slices.Contains(rightSizes, length) {
					checkNoStore(t, c)
				}
			}
			c := fullStore(sets, ways)
			c.Sets[set] = nil
			checkNoStore(t, c)
			c.Sets[set] = []impl.Way{}
			checkNoStore(t, c)
		}
	}
	for _, sets := range []int64{0, 3, 5, 6, 7, 8, 16, 17} {
		for _, ways := range []int64{0, 1, 2, 3, 4, 5, 8} {
			checkNoStore(t, emptyStore(sets, ways))
		}
	}
	if impl.CacheOk(emptyStore(300, 300)) || impl.CacheOk(emptyStore(4, 300)) || impl.CacheOk(emptyStore(300, 4)) {
		t.Errorf("a store of 300 Sets or Ways is right")
	}
	for _, c := range []impl.Cache{{}, {Sets: [][]impl.Way{}, Trees: []int64{}}, {Trees: []int64{0}}, {Sets: [][]impl.Way{{empty()}}}, {Sets: [][]impl.Way{nil}, Trees: []int64{0}}, {Sets: make([][]impl.Way, 4), Trees: make([]int64, 4)}, {Sets: [][]impl.Way{{{}}}, Trees: []int64{0}}} {
		checkNoStore(t, c)
	}
}

func TestStoreOfALineTwice(t *testing.T) {
	for sets, ways := range everySize {
		for set := range sets {
			for _, line := range linesOfSet(sets, set) {
				for way := range ways {
					for other := range way {
						c := withWay(emptyStore(sets, ways), set, way, wayOf(line, impl.StS, 1, 2))
						checkCacheOk(t, c, true)
						checkNoStore(t, withWay(c, set, other, wayOf(line, impl.StS, 1, 2)))
						checkNoStore(t, withWay(c, set, other, wayOf(line, impl.StM, 3, 4)))
					}
				}
			}
		}
	}
}

// Each line in turn into a new store, and which one must go, written out by hand.
func TestStoreOfOneSetByHand(t *testing.T) {
	c := emptyStore(1, 4)
	steps := []struct {
		line, tree, leaves int64
	}{
		{3, 3, noLine},
		{15, 1, noLine},
		{0, 4, noLine},
		{8, 0, 3},
		{0, 4, 3},
		{3, 7, 8},
		{8, 2, 15},
		{15, 1, 0},
	}
	for i, s := range steps {
		n := int64(i)
		w := wayOf(s.line, 1+n%3, n, 9999-n)
		got, is := impl.Filled(c, w)
		way := slices.Index([]int64{3, 15, 0, 8}, s.line)
		c = withTree(withWay(c, 0, int64(way), w), 0, s.tree)
		if !is || !sameStore(got, c) {
			t.Fatalf("line %d filled: %v, %v, want %v", s.line, got, is, c)
		}
		checkLeaves(t, c, 7, s.leaves)
		checkLeaves(t, c, s.line, noLine)
	}
	checkFilled(t, c, wayOf(7, impl.StS, 1, 2), c, false)
	checkDropped(t, c, 0, withWay(c, 0, 2, empty()), true)
}

func TestStoreOfTwoSetsByHand(t *testing.T) {
	c := impl.Cache{
		Sets: [][]impl.Way{
			{wayOf(14, impl.StE, 1, 2), wayOf(0, impl.StS, 3, 4)},
			{empty(), wayOf(15, impl.StM, 5, 6)},
		},
		Trees: []int64{1, 0},
	}
	checkCacheOk(t, c, true)
	checkFind(t, c, 14, wayOf(14, impl.StE, 1, 2), 0)
	checkFind(t, c, 0, wayOf(0, impl.StS, 3, 4), 1)
	checkFind(t, c, 15, wayOf(15, impl.StM, 5, 6), 1)
	checkFind(t, c, 1, empty(), noWay)
	checkLeaves(t, c, 2, 0)
	checkLeaves(t, withTree(c, 0, 0), 2, 14)
	checkLeaves(t, c, 14, noLine)
	checkLeaves(t, c, 1, noLine)
	checkLeaves(t, c, 15, noLine)
	checkFilled(t, c, wayOf(2, impl.StS, 7, 8), c, false)
	checkFilled(t, c, wayOf(0, impl.StM, 7, 8), withTree(withWay(c, 0, 1, wayOf(0, impl.StM, 7, 8)), 0, 0), true)
	checkFilled(t, c, wayOf(14, impl.StS, 7, 8), withWay(c, 0, 0, wayOf(14, impl.StS, 7, 8)), true)
	checkFilled(t, c, wayOf(9, impl.StE, 7, 8), withTree(withWay(c, 1, 0, wayOf(9, impl.StE, 7, 8)), 1, 1), true)
	checkFilled(t, c, wayOf(15, impl.StS, 5, 6), withWay(c, 1, 1, wayOf(15, impl.StS, 5, 6)), true)
	checkDropped(t, c, 15, emptyStoreWith(c.Sets[0], 1, 0), true)
	checkDropped(t, c, 14, withWay(c, 0, 0, empty()), true)
	checkDropped(t, c, 2, c, false)
}

// emptyStoreWith has this one as its first Set and an empty one as its second, and these trees.
func emptyStoreWith(set []impl.Way, trees ...int64) impl.Cache {
	c := emptyStore(2, int64(len(set)))
	c.Sets[0], c.Trees = set, trees
	return storeCopy(c)
}

func TestStoreEdges(t *testing.T) {
	if impl.StI != 0 || impl.StS != 1 || impl.StE != 2 || impl.StM != 3 {
		t.Fatal("the states have other numbers")
	}
	for sets, ways := range everySize {
		for _, c := range []impl.Cache{emptyStore(sets, ways), halfStore(sets, ways), fullStore(sets, ways)} {
			checkCacheOk(t, c, true)
			for _, line := range noLineNumbers {
				checkFind(t, c, line, empty(), noWay)
				checkDropped(t, c, line, c, false)
				checkLeaves(t, c, line, noLine)
				for state := int64(impl.StS); state <= impl.StM; state++ {
					checkFilled(t, c, wayOf(line, state, 1, 2), c, false)
				}
			}
			checkFilled(t, c, empty(), c, false)
			checkFilled(t, c, impl.Way{}, c, false)
			for _, state := range append([]int64{impl.StI}, wrongStates...) {
				checkFilled(t, c, wayOf(0, state, 1, 2), c, false)
				checkFilled(t, c, wayOf(15, state, 1, 2), c, false)
				checkFilled(t, c, wayOf(15, state), c, false)
			}
		}
	}
}

// Which one must go, of each tree: told by the rows that are written out.
func TestStoreLeavesOfEveryTree(t *testing.T) {
	for sets, ways := range everySize {
		for set := range sets {
			for _, r := range rowsOfWays(ways) {
				c := withTree(fullStore(sets, ways), set, r.tree)
				lines := linesOfSet(sets, set)
				for i, line := range lines {
					if int64(i) < ways {
						checkLeaves(t, c, line, noLine)
						continue
					}
					checkLeaves(t, c, line, lines[r.order[0]])
				}
			}
		}
	}
}

// When the one that must go is dropped there is room, just where it was.
func TestStoreRoomWhereOneWent(t *testing.T) {
	for sets, ways := range everySize {
		for set := range sets {
			for _, r := range rowsOfWays(ways) {
				full := withTree(fullStore(sets, ways), set, r.tree)
				for _, line := range linesOfSet(sets, set)[ways:] {
					w := wayOf(line, impl.StE, 8, 9)
					checkFilled(t, full, w, full, false)
					room := withWay(full, set, r.order[0], empty())
					checkDropped(t, full, impl.Leaves(full, line), room, true)
					checkLeaves(t, room, line, noLine)
					want := withTree(withWay(room, set, r.order[0], w), set, r.touched[r.order[0]])
					checkFilled(t, room, w, want, true)
				}
			}
		}
	}
}

// A line goes to the first empty Way of its Set, whichever are empty, and that one is touched.
func TestStoreFirstEmptyWay(t *testing.T) {
	for sets, ways := range everySize {
		if sets*ways == 16 { // all lines have a place there, so none comes anew
			continue
		}
		for set := range sets {
			fresh := linesOfSet(sets, set)[ways]
			for empties := int64(0); empties < 1<<ways; empties++ {
				for _, r := range rowsOfWays(ways) {
					c := withTree(fullStore(sets, ways), set, r.tree)
					first := noWay
					for i, way := range slices.Backward(numbersOf(bitsOf(empties))) {
						c.Sets[set][way] = empty()
						if i == 0 {
							first = way
						}
					}
					w := wayOf(fresh, impl.StM, 8, 9)
					if first == noWay {
						checkFilled(t, c, w, c, false)
						continue
					}
					checkLeaves(t, c, fresh, noLine)
					checkFilled(t, c, w, withTree(withWay(c, set, first, w), set, r.touched[first]), true)
				}
			}
		}
	}
}

// A line that is there is filled anew where it is, also where there is an empty Way ahead of it.
func TestStoreFilledAnew(t *testing.T) {
	for sets, ways := range everySize {
		for set := range sets {
			for way := range ways {
				for _, r := range rowsOfWays(ways) {
					c := withTree(fullStore(sets, ways), set, r.tree)
					w := wayOf(c.Sets[set][way].Line, impl.StM, 8, 9)
					checkFilled(t, c, w, withTree(withWay(c, set, way, w), set, r.touched[way]), true)
					for other := range way {
						c = withWay(c, set, other, empty())
					}
					checkFilled(t, c, w, withTree(withWay(c, set, way, w), set, r.touched[way]), true)
				}
			}
		}
	}
}

// spot is where a Way stands.
type spot struct{ set, way int64 }

// model is what a store should be, told by a map and by the rows of trees that are written out.
type model struct {
	sets, ways int64
	dealt      []int64
	there      map[spot]impl.Way
	trees      []int64
}

func newModel(sets int64, ways int64) *model {
	return &model{sets, ways, setsOf(sets, 16), map[spot]impl.Way{}, make([]int64, sets)}
}

func (m *model) find(line int64) (spot, bool) {
	for at, w := range m.there {
		if w.Line == line {
			return at, true
		}
	}
	return spot{}, false
}

func (m *model) firstFree(set int64) (spot, bool) {
	for way := range m.ways {
		at := spot{set, way}
		if _, taken := m.there[at]; !taken {
			return at, true
		}
	}
	return spot{}, false
}

func (m *model) row(set int64) treeRow { return rowsOfWays(m.ways)[m.trees[set]] }

func (m *model) fill(w impl.Way) bool {
	at, is := m.find(w.Line)
	if !is {
		at, is = m.firstFree(m.dealt[w.Line])
	}
	if is {
		m.there[at] = w
		m.trees[at.set] = m.row(at.set).touched[at.way]
	}
	return is
}

func (m *model) drop(line int64) bool {
	at, is := m.find(line)
	if is {
		delete(m.there, at)
	}
	return is
}

func (m *model) leaves(line int64) int64 {
	_, found := m.find(line)
	set := m.dealt[line]
	_, free := m.firstFree(set)
	if found || free {
		return noLine
	}
	return m.there[spot{set, m.row(set).order[0]}].Line
}

func (m *model) store() impl.Cache {
	c := emptyStore(m.sets, m.ways)
	for at, w := range m.there {
		c.Sets[at.set][at.way] = w
	}
	c.Trees = m.trees
	return storeCopy(c)
}

// checkAgainst holds the store, and what is found and must go of each line, against the model.
func checkAgainst(t *testing.T, c impl.Cache, m *model) {
	t.Helper()
	if !impl.CacheOk(c) || !sameStore(c, m.store()) {
		t.Fatalf("the store is %v, want %v", c, m.store())
	}
	for line := range int64(16) {
		want, number := empty(), noWay
		if at, is := m.find(line); is {
			want, number = m.there[at], at.way
		}
		if got, at := impl.Find(c, line); !sameWay(got, want) || at != number {
			t.Fatalf("Find(%v, %d) = %v, %d, want %v, %d", c, line, got, at, want, number)
		}
		if got := impl.Leaves(c, line); got != m.leaves(line) {
			t.Fatalf("Leaves(%v, %d) = %d, want %d", c, line, got, m.leaves(line))
		}
	}
}

// Long walks of each size: lines are filled, filled anew and dropped in a mixed order, and the whole store is looked at behind each step.
func TestStoreLongWalks(t *testing.T) {
	for sets, ways := range everySize {
		c, _ := impl.NewCache(sets, ways)
		m := newModel(sets, ways)
		n := sets*10 + ways
		for range 1500 {
			n = (25173*n + 13849) % 65536
			line, drops := n/16%16, n/4096%4 == 0
			var is, want bool
			if drops {
				c, is = impl.Dropped(c, line)
				want = m.drop(line)
			} else {
				w := wayOf(line, 1+n/256%3, n%10000, n/7)
				c, is = impl.Filled(c, w)
				want = m.fill(w)
			}
			if is != want {
				t.Fatalf("line %d (drops %v): %v, want %v; the store is %v", line, drops, is, want, c)
			}
			checkAgainst(t, c, m)
		}
	}
}

// foundAll tells what is found of each line.
func foundAll(c impl.Cache) []impl.Way {
	var list []impl.Way
	for line := range int64(16) {
		w, _ := impl.Find(c, line)
		list = append(list, w)
	}
	return list
}

// Promise 6, by the program's own functions alone: each line in turn is filled, where one must go that one is dropped ahead of it; the store stays right, what is filled is found, what is dropped is not, and all other lines are as they were.
func TestStoreWhatIsFilledIsFoundWhatIsDroppedIsNot(t *testing.T) {
	for sets, ways := range everySize {
		for step := int64(1); step <= 15; step += 2 {
			c, _ := impl.NewCache(sets, ways)
			for i := range int64(48) {
				line := i * step % 16
				c = checkPromised(t, c, wayOf(line, 1+i%3, i, 100*i))
			}
			for i := range int64(16) {
				c = checkDroppedIsGone(t, c, i*step%16)
			}
			if fresh, _ := impl.NewCache(sets, ways); !slices.EqualFunc(foundAll(c), foundAll(fresh), sameWay) {
				t.Fatalf("all lines are dropped, and yet it is %v", c)
			}
		}
	}
}

func checkPromised(t *testing.T, c impl.Cache, w impl.Way) impl.Cache {
	t.Helper()
	if goes := impl.Leaves(c, w.Line); goes != noLine {
		if got, is := impl.Filled(c, w); is || !sameStore(got, c) {
			t.Fatalf("Filled(%v, %v) = %v, %v, though %d must go", c, w, got, is, goes)
		}
		c = checkDroppedIsGone(t, c, goes)
	}
	want := foundAll(c)
	want[w.Line] = w
	got, is := impl.Filled(c, w)
	if !is || !impl.CacheOk(got) || !slices.EqualFunc(foundAll(got), want, sameWay) {
		t.Fatalf("Filled(%v, %v) = %v, %v", c, w, got, is)
	}
	if impl.Leaves(got, w.Line) != noLine {
		t.Fatalf("%d is there in %v, and yet %d must go", w.Line, got, impl.Leaves(got, w.Line))
	}
	return got
}

func checkDroppedIsGone(t *testing.T, c impl.Cache, line int64) impl.Cache {
	t.Helper()
	want := foundAll(c)
	_, at := impl.Find(c, line)
	want[line] = empty()
	got, is := impl.Dropped(c, line)
	if is != (at != noWay) || !impl.CacheOk(got) || !slices.EqualFunc(foundAll(got), want, sameWay) {
		t.Fatalf("Dropped(%v, %d) = %v, %v", c, line, got, is)
	}
	return got
}

// spoilStore writes into each list of a store, and into all spare room there is.
func spoilStore(c impl.Cache) {
	spoil(c.Trees)
	for _, set := range c.Sets[:cap(c.Sets)] {
		set = set[:cap(set)]
		for i := range set {
			spoil(set[i].Data)
			set[i] = wayOf(99, 99, 99)
		}
	}
	all := c.Sets[:cap(c.Sets)]
	for i := range all {
		all[i] = []impl.Way{wayOf(98, 98, 98)}
	}
}

// fillCases are such as are done, of a line that is there and of one that is not, and such as are refused.
var fillCases = []impl.Way{wayOf(0, impl.StM, 8, 9), wayOf(3, impl.StS, 8, 9), wayOf(15, impl.StE, 8, 9), wayOf(16, impl.StE, 8, 9), wayOf(0, impl.StI), wayOf(noLine, impl.StI), wayOf(4, impl.StM, 8), wayOf(4, impl.StM, 8, 10000)}

// storesOfAllKinds are right ones, empty, half full and full, and wrong ones.
func storesOfAllKinds(yield func(impl.Cache) bool) {
	for sets, ways := range everySize {
		twice := withWay(emptyStore(sets, 4), 0, 3, wayOf(0, impl.StS, 1, 2))
		twice.Sets[0][0] = wayOf(0, impl.StS, 1, 2)
		for _, c := range []impl.Cache{emptyStore(sets, ways), halfStore(sets, ways), fullStore(sets, ways), withTree(fullStore(sets, ways), 0, -1), twice} {
			if !yield(c) {
				return
			}
		}
	}
}

// checkOwnStore writes into an answer and then into the argument, and looks each time at the other one.
func checkOwnStore(t *testing.T, name string, given impl.Cache, ask func() impl.Cache) {
	t.Helper()
	was := picture(given)
	answer := ask()
	want := storeCopy(answer)
	spoilStore(answer)
	if picture(given) != was {
		t.Errorf("%s: an answer that is changed changes the argument", name)
	}
	answer = ask()
	second := ask()
	spoilStore(second)
	if !sameStore(answer, want) {
		t.Errorf("%s: two answers share memory", name)
	}
	spoilStore(given)
	if !sameStore(answer, want) {
		t.Errorf("%s: an argument that is changed changes an answer", name)
	}
}

func TestStoreAnswersAreNewMemory(t *testing.T) {
	for c := range storesOfAllKinds {
		for _, w := range fillCases {
			given, givenWay := roomyStore(c), roomyWay(w)
			wasWay := pictureOfWay(givenWay)
			checkOwnStore(t, "Filled", given, func() impl.Cache {
				got, _ := impl.Filled(given, givenWay)
				return got
			})
			if pictureOfWay(givenWay) != wasWay {
				t.Errorf("Filled: an answer that is changed changes the Way that was filled")
			}
			given = roomyStore(c)
			got, _ := impl.Filled(given, givenWay)
			want := storeCopy(got)
			spoil(givenWay.Data)
			if !sameStore(got, want) {
				t.Errorf("Filled: a Way that is changed changes an answer")
			}
		}
		for line := int64(-1); line <= 16; line++ {
			given := roomyStore(c)
			checkOwnStore(t, "Dropped", given, func() impl.Cache {
				got, _ := impl.Dropped(given, line)
				return got
			})
			checkFoundIsNew(t, c, line)
		}
	}
	for sets, ways := range everySize {
		checkOwnStore(t, "NewCache", impl.Cache{}, func() impl.Cache {
			got, _ := impl.NewCache(sets, ways)
			return got
		})
	}
}

func checkFoundIsNew(t *testing.T, c impl.Cache, line int64) {
	t.Helper()
	given := roomyStore(c)
	was := picture(given)
	first, _ := impl.Find(given, line)
	second, _ := impl.Find(given, line)
	want := slices.Clone(second.Data)
	spoil(first.Data)
	if picture(given) != was || !slices.Equal(second.Data, want) {
		t.Errorf("Find(%v, %d): an answer that is changed changes the argument or another answer", c, line)
	}
	spoilStore(given)
	if !slices.Equal(second.Data, want) {
		t.Errorf("Find(%v, %d): an argument that is changed changes an answer", c, line)
	}
}

// checkListsApart writes into one list of the store after the other, with its spare room, and looks at all others.
func checkListsApart(t *testing.T, name string, ask func() impl.Cache) {
	t.Helper()
	want := ask()
	for set := range want.Sets {
		for way := range want.Sets[set] {
			got := ask()
			spoil(got.Sets[set][way].Data)
			got.Sets[set][way].Data = want.Sets[set][way].Data
			if !sameStore(got, want) {
				t.Errorf("%s: Data of Way %d of Set %d shares memory with another list", name, way, set)
			}
		}
		got := ask()
		row := got.Sets[set][:cap(got.Sets[set])]
		for i := range row {
			row[i] = wayOf(99, 99, 99)
		}
		got.Sets[set] = want.Sets[set]
		if !sameStore(got, want) {
			t.Errorf("%s: Set %d shares memory with another list", name, set)
		}
	}
	got := ask()
	spoil(got.Trees)
	got.Trees = want.Trees
	if !sameStore(got, want) {
		t.Errorf("%s: Trees share memory with another list", name)
	}
}

func TestStoreListsOfOneAnswerShareNothing(t *testing.T) {
	for sets, ways := range everySize {
		checkListsApart(t, "NewCache", func() impl.Cache {
			got, _ := impl.NewCache(sets, ways)
			return got
		})
	}
	for c := range storesOfAllKinds {
		for _, w := range fillCases {
			checkListsApart(t, "Filled", func() impl.Cache {
				got, _ := impl.Filled(c, w)
				return got
			})
		}
		for line := int64(-1); line <= 16; line++ {
			checkListsApart(t, "Dropped", func() impl.Cache {
				got, _ := impl.Dropped(c, line)
				return got
			})
		}
	}
}

// A store may come whose own lists share memory: those of the answer do not.
func TestStoreOfSharedLists(t *testing.T) {
	data := []int64{5, 6}
	shared := impl.Cache{
		Sets:  [][]impl.Way{{wayOf(0, impl.StS), wayOf(2, impl.StE)}, {wayOf(1, impl.StM), wayOf(3, impl.StS)}},
		Trees: []int64{1, 0},
	}
	for _, set := range shared.Sets {
		for i := range set {
			set[i].Data = data
		}
	}
	set := []impl.Way{empty(), empty(), empty(), empty()}
	bare := impl.Cache{Sets: [][]impl.Way{set, set, set, set}, Trees: []int64{0, 7, 3, 5}}
	for _, c := range []impl.Cache{shared, bare} {
		checkCacheOk(t, c, true)
		for _, w := range append(fillCases, wayOf(2, impl.StM, 1, 2)) {
			checkListsApart(t, "Filled", func() impl.Cache {
				got, _ := impl.Filled(c, wayOf(w.Line, w.State, w.Data...))
				return got
			})
		}
		checkListsApart(t, "Dropped", func() impl.Cache {
			got, _ := impl.Dropped(c, 2)
			return got
		})
	}
	w := impl.Way{Line: 2, State: impl.StM, Data: data}
	checkListsApart(t, "Filled", func() impl.Cache {
		got, _ := impl.Filled(shared, w)
		return got
	})
	got, is := impl.Filled(bare, wayOf(6, impl.StM, 1, 2))
	if want := withTree(withWay(bare, 2, 0, wayOf(6, impl.StM, 1, 2)), 2, 3); !is || !sameStore(got, want) {
		t.Errorf("one of four Sets that were one list is filled: %v, want %v", got, want)
	}
}
